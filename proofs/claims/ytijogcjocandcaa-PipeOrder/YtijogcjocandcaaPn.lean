/-
  taskmilllaw.played.
-/
import Derived.Test.YtijogcjocandcaaPo
import Derived.Test.YtijogcjocandcaaTw
import Derived.Test.YtijogcjocandcaaSha
import Derived.Deep.CutBlock
import Derived.Deep.DeepCutAuto
import Derived.Deep.CutRange
namespace Go.Proofs.Ytijogcjocandcaa
open Go.RowKit

/-- What those who are woken by the move m have sent. -/
def sentM (m : Int) (ws : List Wk) : List Int := if m = 2 ∨ m = 3 then sentW ws else []
theorem sentM_yes {m : Int} (h : m = 2 ∨ m = 3) (ws : List Wk) : sentM m ws = sentW ws := if_pos h
theorem sentM_no {m : Int} (h : ¬ (m = 2 ∨ m = 3)) (ws : List Wk) : sentM m ws = [] := if_neg h
theorem NewPipe.below {B : Nat} {w w' : World} {v : Value} {P : Pp} (h : NewPipe B w v P) (hb : Below w.heap.size w w') : NewPipe B w' v P := by
  obtain ⟨vi, vs, vg, rfl, h1, h2, h3⟩ := h
  exact ⟨vi, vs, vg, rfl, h1.below hb, h2.below hb, h3.below hb⟩
theorem NewAns.below {B : Nat} {w w' : World} {v : Value} {A : An} (h : NewAns B w v A) (hb : Below w.heap.size w w') : NewAns B w' v A := by
  obtain ⟨vw, rfl, h1⟩ := h
  exact ⟨vw, rfl, h1.below hb⟩

set_option maxRecDepth 100000 in
set_option maxHeartbeats 8000000 in
theorem played_any (w : World) (cap : Int) (vm : Value) (ms : List Int) (hm : IsL KI w vm ms) (h0 : 0 ≤ cap) (h1 : cap ≤ 50) (hn : ms.length ≤ 300) :
    Calls Try.prog 28 #[.int .i64 cap, vm] w fun e w' => ∃ sent got P a1 c1 a2 c2 vp, e = .returned (.tuple #[.slice a1 sent.length c1, .slice a2 got.length c2, vp, .bool true]) ∧ Inv ms.length cap sent got P ∧ IsL KI w' (.slice a1 sent.length c1) sent ∧ IsL KI w' (.slice a2 got.length c2) got ∧ IsPipe w' vp P ∧ Below w.heap.size w w' := by
  have hnot : ∀ (x : Bool) (w : World), (Op.unary .not (.bool x)).run Try.prog w = .ok (.bool (!x)) w := fun _ _ => rfl
  have hfld : ∀ (a b : Value) (w : World), (Instr.field 30 (.agg #[a, b]) 0).run Try.prog w = .ok a w := fun _ _ _ => rfl
  obtain ⟨am, cm, rfl⟩ := hm.form
  have HM := hide (hm.opens ki rfl)
  obtain ⟨n, en⟩ : ∃ n, ms.length = n := ⟨_, rfl⟩
  rw [en] at HM hn ⊢
  have HN := hide en
  clear hm en
  have HI0 := hide (inv_zero h0 h1)
  have HK0 := hide (new_block w (.cells #[.int .i64 0, .slice none 0 0, .bool false, .slice none 0 0, .slice none 0 0] 25)); have HB0 := hide ((Below.refl w.heap.size w).alloc (Nat.le_refl _) (.cells #[.int .i64 0, .slice none 0 0, .bool false, .slice none 0 0, .slice none 0 0] 25))
  obtain ⟨W0, e0⟩ : ∃ X, w.alloc (.cells #[.int .i64 0, .slice none 0 0, .bool false, .slice none 0 0, .slice none 0 0] 25) = X := ⟨_, rfl⟩
  rw [e0] at HK0 HB0
  have HE := hide e0
  clear e0
  go_enter Try.func28, Try.ntmps28
  go_upto_region 1 with fail
  rw [unhide HE]
  clear HE
  obtain ⟨⟨p0, p1, p2, p3, p4⟩, ⟨pf0, pf1, pf2, pf3, pf4⟩, pl⟩ := block5 (unhide HK0)
  go_wp2
  clear p0 p1 p2 p3 p4 pf0 pf1 pf2 pf3 pf4 pl
  have HK1 := hide (put5_new (y0 := .int .i64 cap) (y1 := .slice none 0 0) (y2 := .bool false) (y3 := .slice none 0 0) (y4 := .slice none 0 0) (unhide HK0)); have HB1 := hide (put5_below (y0 := .int .i64 cap) (y1 := .slice none 0 0) (y2 := .bool false) (y3 := .slice none 0 0) (y4 := .slice none 0 0) (unhide HB0) (Nat.le_refl w.heap.size))
  obtain ⟨W1, e1⟩ : ∃ X, put5 W0 w.heap.size (.int .i64 cap) (.slice none 0 0) (.bool false) (.slice none 0 0) (.slice none 0 0) = X := ⟨_, rfl⟩
  rw [e1] at HK1 HB1
  have e2 : (((((W0).setCell ⟨w.heap.size, 0, none⟩ (.int .i64 cap)).setCell ⟨w.heap.size, 1, none⟩ (.slice none 0 0)).setCell ⟨w.heap.size, 2, none⟩ (.bool false)).setCell ⟨w.heap.size, 3, none⟩ (.slice none 0 0)).setCell ⟨w.heap.size, 4, none⟩ (.slice none 0 0) = W1 := e1
  rw [e2]
  clear e1 e2 HK0 HB0
  go_loopw [4, 5, 8] (fun s g i wr => ∃ (j ls lg : Nat) (sent got : List Int) (P : Pp) (as_ ag a1 a2 a3 : Option Addr) (cs cg n1 c1 n2 c2 n3 c3 : Nat), j ≤ n ∧ s = .slice as_ ls cs ∧ g = .slice ag lg cg ∧ i = .int .i64 j ∧ ls = sent.length ∧ lg = got.length ∧ wr.heap[w.heap.size]? = some (.cells #[.int .i64 P.cap, .slice a1 n1 c1, .bool P.closed, .slice a2 n2 c2, .slice a3 n3 c3] 25) ∧ Play w.heap.size w cap j (.slice as_ ls cs) (.slice ag lg cg) wr sent got P (.agg #[.int .i64 P.cap, .slice a1 n1 c1, .bool P.closed, .slice a2 n2 c2, .slice a3 n3 c3])) (fun _ _ i _ => n - (intOf i).toNat)
  case atStart => exact ⟨0, 0, 0, [], [], ⟨cap, [], false, [], []⟩, none, none, none, none, none, 0, 0, 0, 0, 0, 0, 0, 0, Nat.zero_le _, rfl, rfl, rfl, rfl, rfl, unhide HK1, ⟨unhide HI0, own_nil _ _, own_nil _ _, (fun k hk => by cases hk), ⟨_, _, _, rfl, isl_nil _, isl_nil _, isl_nil _⟩, (fun _ _ _ _ _ e => by cases e; exact ⟨fun h => absurd h (by simp), fun h => absurd h (by simp), fun h => absurd h (by simp)⟩), (fun _ _ _ _ _ e => by cases e; exact ⟨fun h => absurd h (by simp), fun h => absurd h (by simp), fun h => absurd h (by simp)⟩), (fun _ _ _ _ _ e => by cases e; exact ⟨fun h => absurd h (by simp), fun h => absurd h (by simp), fun h => absurd h (by simp)⟩), unhide HB1, (unhide HB1).size⟩⟩
  case round =>
    obtain ⟨j, ls, lg, sent, got, P, as_, ag, a1, a2, a3, cs, cg, n1, c1, n2, c2, n3, c3, hj, rfl, rfl, rfl, hls, hlg, hkp, hpl⟩ := hrel
    have HLS := hide hls; have HLG := hide hlg; have HKP := hide hkp; have HPL := hide hpl
    clear hls hlg hkp hpl HK1 HB1 HI0
    obtain ⟨pcap, items, closed, ss, gs⟩ := P
    simp only at HKP HPL
    by_cases hlt : j < n
    · have hj3 : j < 300 := by omega
      have w1 : IntKind.i64.wrap ((j : Int) + 1) = (j : Int) + 1 := wrapi (by omega) (by omega)
      obtain ⟨m, em⟩ : ∃ z, ms.getD j 0 = z := ⟨_, rfl⟩
      obtain ⟨bm, om, eam, hbm, lm⟩ := unhide HM (by omega)
      subst eam
      have HMC : Hid (∀ W, Below w.heap.size w W → W.cell? ⟨bm, om + j, none⟩ = some (.int .i64 m)) := fun W hW => by
        have := (lm.below hW hbm).ints (j := j) (by rw [unhide HN]; exact hlt)
        rw [em] at this
        exact this
      have i0 : (0 : Int) ≤ (j : Int) := by omega
      have i1 : (j : Int) < (n : Int) := by omega
      have HX0 := hide (unhide HPL).bel
      clear lm em HM
      have HCN : Hid (countP ⟨pcap, items, closed, ss, gs⟩ ≤ 6000) := (by have h9 := (unhide HPL).inv.cnt; show countP _ ≤ 6000; omega)
      have HSHP : Hid (Short ⟨pcap, items, closed, ss, gs⟩) := short_of (Nat.le_trans (unhide HCN) (by decide))
      obtain ⟨⟨p0, p1, p2, p3, p4⟩, ⟨pf0, pf1, pf2, pf3, pf4⟩, pl⟩ := block5 (unhide HKP)
      go_upto_region 7 with fail
      clear p0 p1 p2 p3 p4 pf0 pf1 pf2 pf3 pf4 pl
      have HX_1 := hide ((unhide HX0).alloc (Nat.le_trans (show w.heap.size ≤ w.heap.size from Nat.le_refl _) (unhide HX0).size) (.cells #[.int .i64 pcap, .slice a1 n1 c1, .bool closed, .slice a2 n2 c2, .slice a3 n3 c3] 25))
      have Kp_1 := hide (keep_alloc (unhide HKP) (.cells #[.int .i64 pcap, .slice a1 n1 c1, .bool closed, .slice a2 n2 c2, .slice a3 n3 c3] 25))
      have FY_1 := hide ((unhide HPL).below ((Below.refl _ _).alloc (Nat.le_refl _) (.cells #[.int .i64 pcap, .slice a1 n1 c1, .bool closed, .slice a2 n2 c2, .slice a3 n3 c3] 25)))
      have Kq_1 := hide (new_block wr (.cells #[.int .i64 pcap, .slice a1 n1 c1, .bool closed, .slice a2 n2 c2, .slice a3 n3 c3] 25))
      have hlp_q : w.heap.size < wr.heap.size := size_of (unhide HKP)
      obtain ⟨Q, eQ⟩ : ∃ X, wr.heap.size = X := ⟨_, rfl⟩
      obtain ⟨W2, eW2⟩ : ∃ X, wr.alloc (.cells #[.int .i64 pcap, .slice a1 n1 c1, .bool closed, .slice a2 n2 c2, .slice a3 n3 c3] 25) = X := ⟨_, rfl⟩
      rw [eQ, eW2] at Kq_1; rw [eW2] at HX_1 Kp_1 FY_1; rw [eQ] at hlp_q; rw [eQ, eW2]
      clear eQ eW2 HX0 HKP HPL
      go_upto_region 8 with fail
      have HX_2 := hide ((unhide HX_1).alloc (Nat.le_trans (show w.heap.size ≤ w.heap.size from Nat.le_refl _) (unhide HX_1).size) (.cells #[.bool false, .bool false, .bool false, .int .i64 0, .int .i64 0, .slice none 0 0] 34))
      have Kp_2 := hide (keep_alloc (unhide Kp_1) (.cells #[.bool false, .bool false, .bool false, .int .i64 0, .int .i64 0, .slice none 0 0] 34))
      have Kq_2 := hide (keep_alloc (unhide Kq_1) (.cells #[.bool false, .bool false, .bool false, .int .i64 0, .int .i64 0, .slice none 0 0] 34))
      have FY_2 := hide ((unhide FY_1).below ((Below.refl _ _).alloc (Nat.le_refl _) (.cells #[.bool false, .bool false, .bool false, .int .i64 0, .int .i64 0, .slice none 0 0] 34)))
      have Ka_2 := hide (new_block W2 (.cells #[.bool false, .bool false, .bool false, .int .i64 0, .int .i64 0, .slice none 0 0] 34))
      have hlp_a : w.heap.size < W2.heap.size := size_of (unhide Kp_1)
      have hlq_a : Q < W2.heap.size := size_of (unhide Kq_1)
      obtain ⟨A, eA⟩ : ∃ X, W2.heap.size = X := ⟨_, rfl⟩
      obtain ⟨W3, eW3⟩ : ∃ X, W2.alloc (.cells #[.bool false, .bool false, .bool false, .int .i64 0, .int .i64 0, .slice none 0 0] 34) = X := ⟨_, rfl⟩
      rw [eA, eW3] at Ka_2; rw [eW3] at HX_2 Kp_2 Kq_2 FY_2; rw [eA] at hlp_a hlq_a; rw [eA, eW3]
      clear eA eW3 HX_1 Kp_1 Kq_1 FY_1
      go_upto_region 9 with fail
      have HX_3 := hide ((unhide HX_2).alloc (Nat.le_trans (show w.heap.size ≤ w.heap.size from Nat.le_refl _) (unhide HX_2).size) (.cells #[.int .i64 0, .int .i64 0] 30))
      have Kp_3 := hide (keep_alloc (unhide Kp_2) (.cells #[.int .i64 0, .int .i64 0] 30))
      have Kq_3 := hide (keep_alloc (unhide Kq_2) (.cells #[.int .i64 0, .int .i64 0] 30))
      have Ka_3 := hide (keep_alloc (unhide Ka_2) (.cells #[.int .i64 0, .int .i64 0] 30))
      have FY_3 := hide ((unhide FY_2).below ((Below.refl _ _).alloc (Nat.le_refl _) (.cells #[.int .i64 0, .int .i64 0] 30)))
      have Kf_3 := hide (new_block W3 (.cells #[.int .i64 0, .int .i64 0] 30))
      have hlp_f : w.heap.size < W3.heap.size := size_of (unhide Kp_2)
      have hlq_f : Q < W3.heap.size := size_of (unhide Kq_2)
      have hla_f : A < W3.heap.size := size_of (unhide Ka_2)
      obtain ⟨F, eF⟩ : ∃ X, W3.heap.size = X := ⟨_, rfl⟩
      obtain ⟨W4, eW4⟩ : ∃ X, W3.alloc (.cells #[.int .i64 0, .int .i64 0] 30) = X := ⟨_, rfl⟩
      rw [eF, eW4] at Kf_3; rw [eW4] at HX_3 Kp_3 Kq_3 Ka_3 FY_3; rw [eF] at hlp_f hlq_f hla_f; rw [eF, eW4]
      clear eF eW4 HX_2 Kp_2 Kq_2 Ka_2 FY_2
      have km := unhide HMC W4 (unhide HX_3)
      go_upto_block 2 with fail
      go_cut [4, 5] from 32 to 92 (fun s g wx => ∃ (ls1 lg1 : Nat) (sent1 got1 : List Int) (as1 ag1 : Option Addr) (cs1 cg1 : Nat) (cap5 : Int) (items5 : List Int) (closed5 : Bool) (ss5 gs5 : List Po) (o0 o1 o2 : Bool) (o3 o4 : Int) (wk : List Wk) (x5 xs5 xg5 xw : Option Addr) (y5 ys5 yg5 nw yw : Nat), s = .slice as1 ls1 cs1 ∧ g = .slice ag1 lg1 cg1 ∧ ls1 = sent1.length ∧ lg1 = got1.length ∧ wk.length = nw ∧ nw ≤ 6000 ∧ wx.heap[w.heap.size]? = some (.cells #[.int .i64 pcap, .slice a1 n1 c1, .bool closed, .slice a2 n2 c2, .slice a3 n3 c3] 25) ∧ wx.heap[Q]? = some (.cells #[.int .i64 cap5, .slice x5 items5.length y5, .bool closed5, .slice xs5 ss5.length ys5, .slice xg5 gs5.length yg5] 25) ∧ wx.heap[A]? = some (.cells #[.bool o0, .bool o1, .bool o2, .int .i64 o3, .int .i64 o4, .slice xw nw yw] 34) ∧ wx.heap[F]? = some (.cells #[.int .i64 0, .int .i64 0] 30) ∧ Mid w.heap.size w (.slice as1 ls1 cs1) (.slice ag1 lg1 cg1) wx sent1 got1 ⟨cap5, items5, closed5, ss5, gs5⟩ (.agg #[.int .i64 cap5, .slice x5 items5.length y5, .bool closed5, .slice xs5 ss5.length ys5, .slice xg5 gs5.length yg5]) ⟨o0, o1, o2, o3, o4, wk⟩ (.agg #[.bool o0, .bool o1, .bool o2, .int .i64 o3, .int .i64 o4, .slice xw nw yw]) ∧ Inv (j + 1) cap (sent1 ++ sentM m wk) (got1 ++ gotW wk) ⟨cap5, items5, closed5, ss5, gs5⟩ ∧ ((m = 2 ∨ m = 3) → ∀ x ∈ wk, 1 ≤ x.1 ∧ x.1 ≤ (j : Int)))
      case first =>
        have hmc : m = 0 ∨ m = 1 ∨ m = 2 ∨ m = 3 ∨ m = 4 ∨ (m ≠ 0 ∧ m ≠ 1 ∧ m ≠ 2 ∧ m ≠ 3 ∧ m ≠ 4) := by omega
        rcases hmc with rfl | rfl | rfl | rfl | rfl | ⟨m0, m1, m2, m3, m4⟩
        · go_upto_region 12 with fail
          clear km
          have hz0 := inv_task (unhide FY_3).inv hj3
          have hinv := inv_send (t := false) (unhide FY_3).inv hj3
          have HCA : Hid (∀ W v', IsPipe W v' ⟨pcap, items, closed, ss, gs⟩ → Calls Try.prog 13 #[v', .int .i64 ((j : Int) + 1), .int .i64 (j : Int), .bool false] W fun e w' => ∃ v1 v2, e = .returned (.tuple #[v1, v2, .agg #[.int .i64 0, .int .i64 0]]) ∧ NewPipe W.heap.size w' v1 (sendL ⟨pcap, items, closed, ss, gs⟩ ((j : Int) + 1, 0, (j : Int)) false).1 ∧ NewAns W.heap.size w' v2 (sendL ⟨pcap, items, closed, ss, gs⟩ ((j : Int) + 1, 0, (j : Int)) false).2 ∧ Below W.heap.size W w') := fun W v' hW => (by have h9 := Send_any W v' ⟨pcap, items, closed, ss, gs⟩ ((j : Int) + 1) (j : Int) false hW (unhide HSHP); unfold sendR at h9; rw [hz0] at h9; exact h9)
          have hwl : (sendL ⟨pcap, items, closed, ss, gs⟩ ((j : Int) + 1, 0, (j : Int)) false).2.wakes.length ≤ 6000 := (by have h9 := (sendR_short (P := ⟨pcap, items, closed, ss, gs⟩) (x := (j : Int) + 1) (u := (j : Int)) (try_ := false) (unhide HCN)).2; unfold sendR at h9; rw [hz0, if_pos rfl] at h9; omega)
          obtain ⟨⟨⟨cap5, items5, closed5, ss5, gs5⟩, ⟨o0, o1, o2, o3, o4, wk⟩⟩, hR⟩ : ∃ X, sendL ⟨pcap, items, closed, ss, gs⟩ ((j : Int) + 1, 0, (j : Int)) false = X := ⟨_, rfl⟩
          rw [hR] at hinv HCA hwl
          simp only at hinv HCA hwl
          have HINV := hide hinv; have HGD : Hid (pipeF ⟨cap5, items5, closed5, ss5, gs5⟩ = (0, 0)) := (good_iff _).2 hinv.good; have HSH : Hid (Short ⟨cap5, items5, closed5, ss5, gs5⟩) := short_of (Nat.le_trans hinv.good.cnt (by decide))
          obtain ⟨nw, enw⟩ : ∃ k, wk.length = k := ⟨_, rfl⟩
          have HNW := hide enw
          have HWL : Hid (nw ≤ 6000) := (by rw [← enw]; exact hwl)
          clear hz0 hinv hwl hR enw
          have HSS : Hid (∀ W, Below w.heap.size w W → W.heap[w.heap.size]? = some (.cells #[.int .i64 pcap, .slice a1 n1 c1, .bool closed, .slice a2 n2 c2, .slice a3 n3 c3] 25) → (W.cell? ⟨w.heap.size, 0, none⟩ = some (.int .i64 pcap) ∧ W.cell? ⟨w.heap.size, 1, none⟩ = some (.slice a1 n1 c1) ∧ W.cell? ⟨w.heap.size, 2, none⟩ = some (.bool closed) ∧ W.cell? ⟨w.heap.size, 3, none⟩ = some (.slice a2 n2 c2) ∧ W.cell? ⟨w.heap.size, 4, none⟩ = some (.slice a3 n3 c3)) ∧ W.cell? ⟨bm, om + j, none⟩ = some (.int .i64 0)) := fun W hW hk => ⟨(block5 hk).1, unhide HMC W hW⟩
          refine wp_region_held_drew (S := fun W => (W.cell? ⟨w.heap.size, 0, none⟩ = some (.int .i64 pcap) ∧ W.cell? ⟨w.heap.size, 1, none⟩ = some (.slice a1 n1 c1) ∧ W.cell? ⟨w.heap.size, 2, none⟩ = some (.bool closed) ∧ W.cell? ⟨w.heap.size, 3, none⟩ = some (.slice a2 n2 c2) ∧ W.cell? ⟨w.heap.size, 4, none⟩ = some (.slice a3 n3 c3)) ∧ W.cell? ⟨bm, om + j, none⟩ = some (.int .i64 0)) (by kernel_rfl) (unhide HSS _ (unhide HX_3).drew (unhide Kp_3)) (fun hHeld => ?_)
          refine wpAnyH_take (i := 0) (oi := { dst := some 36, op := Op.load 25 (Operand.tmp 6), type := 25, pos := "law05.go:124", after := #[], guard := none }) (v := ?v0m0) rfl (by kernel_rfl) (by kernel_rfl) (by kernel_rfl) (fun _ _ _ h => h) (Or.inl ⟨by rfl, ?y0m0⟩) (by assumption) ?r0m0
          case y0m0 => (intro w hSw; (try dsimp only at hSw); go_simp; try with_reducible rfl)
          try simp only [Act.put, List.setIfInBounds_toArray, List.set_cons_zero, List.set_cons_succ]
          refine wpAnyH_take (i := 1) (oi := { dst := some 37, op := Op.move (Operand.tmp 9), type := 3, pos := "law05.go:124", after := #[], guard := none }) (v := ?v1m0) rfl (by kernel_rfl) (by kernel_rfl) (by kernel_rfl) (fun _ _ _ h => h) (Or.inl ⟨by rfl, ?y1m0⟩) (by assumption) ?r1m0
          case y1m0 => (intro w hSw; (try dsimp only at hSw); go_simp; try with_reducible rfl)
          try simp only [Act.put, List.setIfInBounds_toArray, List.set_cons_zero, List.set_cons_succ]
          refine wpAnyH_take (i := 2) (oi := { dst := some 38, op := Op.move (Operand.tmp 8), type := 3, pos := "law05.go:124", after := #[], guard := none }) (v := ?v2m0) rfl (by kernel_rfl) (by kernel_rfl) (by kernel_rfl) (fun _ _ _ h => h) (Or.inl ⟨by rfl, ?y2m0⟩) (by assumption) ?r2m0
          case y2m0 => (intro w hSw; (try dsimp only at hSw); go_simp; try with_reducible rfl)
          try simp only [Act.put, List.setIfInBounds_toArray, List.set_cons_zero, List.set_cons_succ]
          refine wpAnyH_take (i := 3) (oi := { dst := some 39, op := Op.move (Operand.tmp 1), type := 22, pos := "law05.go:124", after := #[], guard := none }) (v := ?v3m0) rfl (by kernel_rfl) (by kernel_rfl) (by kernel_rfl) (fun _ _ _ h => h) (Or.inl ⟨by rfl, ?y3m0⟩) (by assumption) ?r3m0
          case y3m0 => (intro w hSw; (try dsimp only at hSw); go_simp; try with_reducible rfl)
          try simp only [Act.put, List.setIfInBounds_toArray, List.set_cons_zero, List.set_cons_succ]
          refine wpAnyH_take (i := 4) (oi := { dst := some 40, op := Op.move (Operand.tmp 8), type := 3, pos := "law05.go:124", after := #[], guard := none }) (v := ?v4m0) rfl (by kernel_rfl) (by kernel_rfl) (by kernel_rfl) (fun _ _ _ h => h) (Or.inl ⟨by rfl, ?y4m0⟩) (by assumption) ?r4m0
          case y4m0 => (intro w hSw; (try dsimp only at hSw); go_simp; try with_reducible rfl)
          try simp only [Act.put, List.setIfInBounds_toArray, List.set_cons_zero, List.set_cons_succ]
          refine wpAnyH_take (i := 5) (oi := { dst := some 41, op := Op.indexAddr 22 (Operand.tmp 39) (Operand.tmp 40), type := 0, pos := "law05.go:124", after := #[{ on := 3, ground := Ground.data }, { on := 4, ground := Ground.data }], guard := none }) (v := ?v5m0) rfl (by kernel_rfl) (by kernel_rfl) (by kernel_rfl) (fun _ _ _ h => h) (Or.inl ⟨by rfl, ?y5m0⟩) (by assumption) ?r5m0
          case y5m0 => (intro w hSw; (try dsimp only at hSw); go_simp; try with_reducible rfl)
          try simp only [Act.put, List.setIfInBounds_toArray, List.set_cons_zero, List.set_cons_succ]
          refine wpAnyH_take (i := 6) (oi := { dst := some 42, op := Op.load 3 (Operand.tmp 41), type := 3, pos := "law05.go:124", after := #[{ on := 5, ground := Ground.data }], guard := none }) (v := ?v6m0) rfl (by kernel_rfl) (by kernel_rfl) (by kernel_rfl) (fun _ _ _ h => h) (Or.inl ⟨by rfl, ?y6m0⟩) (by assumption) ?r6m0
          case y6m0 => (intro w hSw; (try dsimp only at hSw); go_simp; try with_reducible rfl)
          try simp only [Act.put, List.setIfInBounds_toArray, List.set_cons_zero, List.set_cons_succ]
          refine wpAnyH_take (i := 7) (oi := { dst := some 43, op := Op.binOp BinOp.eql 3 (Operand.tmp 42) (Operand.const (Value.int IntKind.i64 1)) 3, type := 4, pos := "law05.go:124", after := #[{ on := 6, ground := Ground.data }], guard := none }) (v := ?v7m0) rfl (by kernel_rfl) (by kernel_rfl) (by kernel_rfl) (fun _ _ _ h => h) (Or.inl ⟨by rfl, ?y7m0⟩) (by assumption) ?r7m0
          case y7m0 => (intro w hSw; (try dsimp only at hSw); go_simp; try with_reducible rfl)
          try simp only [Act.put, List.setIfInBounds_toArray, List.set_cons_zero, List.set_cons_succ]
          refine wpAnyH_ready (rs := [8]) (by kernel_rfl) (by simp) ?_
          refine AllReadyH.cons (o := { dst := some 44, op := Op.call { callee := Callee.value (Operand.func 13), args := #[Operand.tmp 36, Operand.tmp 37, Operand.tmp 38, Operand.tmp 43], argTypes := #[25, 3, 3, 4] }, type := 35, pos := "law05.go:124", after := #[{ on := 0, ground := Ground.data }, { on := 1, ground := Ground.data }, { on := 2, ground := Ground.data }, { on := 7, ground := Ground.data }], guard := none }) rfl (fun K hK => ?_) AllReadyH.nil
          go_simp
          go_at_call 13
          refine (unhide HCA _ _ ((unhide FY_3).pipe.below (Below.refl _ _).drew)).mono ?_
          rintro e w5 ⟨v1, v2, rfl, hq7, ha7, hb7⟩
          have hb5 : Below W4.heap.size W4 w5 := Below.next (Below.refl _ _).drew hb7 (Nat.le_refl _)
          obtain ⟨B5, eB5⟩ : ∃ X, W4.heap.size = X := ⟨_, rfl⟩
          have hq8 : NewPipe B5 w5 v1 ⟨cap5, items5, closed5, ss5, gs5⟩ := (by rw [← eB5]; exact hq7)
          have ha8 : NewAns B5 w5 v2 ⟨o0, o1, o2, o3, o4, wk⟩ := (by rw [← eB5]; exact ha7)
          have hB5p : w.heap.size < B5 := (by rw [← eB5]; exact size_of (unhide Kp_3))
          have hB5q : Q < B5 := (by rw [← eB5]; exact size_of (unhide Kq_3))
          have hB5a : A < B5 := (by rw [← eB5]; exact size_of (unhide Ka_3))
          have hB5f : F < B5 := (by rw [← eB5]; exact size_of (unhide Kf_3))
          have HMid := hide (Play.mid (unhide FY_3) hb5 hq8 ha8 (Nat.le_of_eq eB5) (show w.heap.size < B5 from hB5p))
          have HNP := hide hq8; have HNA := hide ha8
          obtain ⟨x5, y5, xs5, ys5, xg5, yg5, rfl, -, -, -⟩ := NewPipe.form' hq8
          obtain ⟨xw, yw, rfl, -⟩ := NewAns.form' ha8
          rw [unhide HNW] at HMid HNA ⊢
          have HX_c04 := hide (Below.next (unhide HX_3) hb5 (by first | exact Nat.le_refl _ | (have := unhide HBA; omega))); have Kp_c04 := hide (keep_below (unhide Kp_3) hb5); have Kq_c04 := hide (keep_below (unhide Kq_3) hb5); have Ka_c04 := hide (keep_below (unhide Ka_3) hb5); have Kf_c04 := hide (keep_below (unhide Kf_3) hb5); clear HX_3 Kp_3 Kq_3 Ka_3 Kf_3
          clear hb5 hb7 hq7 ha7 hq8 ha8 eB5 FY_3
          refine hK.out _ _ (unhide HSS _ (unhide HX_c04) (unhide Kp_c04)) (fun hHeld => ?_)
          clear hK K
          try simp only [Act.put, List.setIfInBounds_toArray, List.set_cons_zero, List.set_cons_succ]
          refine wpAnyH_take (i := 9) (oi := { dst := some 35, op := Op.move (Operand.tmp 44), type := 35, pos := "law05.go:124", after := #[{ on := 8, ground := Ground.data }], guard := none }) (v := ?v9m0) rfl (by kernel_rfl) (by kernel_rfl) (by kernel_rfl) (fun _ _ _ h => h) (Or.inl ⟨by rfl, ?y9m0⟩) (by assumption) ?r9m0
          case y9m0 => (intro w hSw; (try dsimp only at hSw); go_simp; try with_reducible rfl)
          try simp only [Act.put, List.setIfInBounds_toArray, List.set_cons_zero, List.set_cons_succ]
          refine wpAnyH_take (i := 10) (oi := { dst := some 45, op := Op.extract (Operand.tmp 35) 0, type := 25, pos := "law05.go:124", after := #[{ on := 9, ground := Ground.data }], guard := none }) (v := ?v10m0) rfl (by kernel_rfl) (by kernel_rfl) (by kernel_rfl) (fun _ _ _ h => h) (Or.inl ⟨by rfl, ?y10m0⟩) (by assumption) ?r10m0
          case y10m0 => (intro w hSw; (try dsimp only at hSw); go_simp; try with_reducible rfl)
          try simp only [Act.put, List.setIfInBounds_toArray, List.set_cons_zero, List.set_cons_succ]
          refine wpAnyH_take (i := 11) (oi := { dst := some 46, op := Op.extract (Operand.tmp 35) 1, type := 34, pos := "law05.go:124", after := #[{ on := 9, ground := Ground.data }, { on := 13, ground := Ground.gcOnly Departure.lateStores }], guard := none }) (v := ?v11m0) rfl (by kernel_rfl) (by kernel_rfl) (by kernel_rfl) (fun _ _ _ h => h) (Or.inl ⟨by rfl, ?y11m0⟩) (by assumption) ?r11m0
          case y11m0 => (intro w hSw; (try dsimp only at hSw); go_simp; try with_reducible rfl)
          try simp only [Act.put, List.setIfInBounds_toArray, List.set_cons_zero, List.set_cons_succ]
          refine wpAnyH_take (i := 12) (oi := { dst := some 47, op := Op.extract (Operand.tmp 35) 2, type := 30, pos := "law05.go:124", after := #[{ on := 9, ground := Ground.data }, { on := 14, ground := Ground.gcOnly Departure.lateStores }], guard := none }) (v := ?v12m0) rfl (by kernel_rfl) (by kernel_rfl) (by kernel_rfl) (fun _ _ _ h => h) (Or.inl ⟨by rfl, ?y12m0⟩) (by assumption) ?r12m0
          case y12m0 => (intro w hSw; (try dsimp only at hSw); go_simp; try with_reducible rfl)
          try simp only [Act.put, List.setIfInBounds_toArray, List.set_cons_zero, List.set_cons_succ]
          refine wpAnyH_ready (rs := [13]) (by kernel_rfl) (by simp) ?_
          refine AllReadyH.cons (o := { dst := none, op := Op.store 25 (Operand.tmp 10) (Operand.tmp 45), type := 0, pos := "law05.go:124", after := #[{ on := 10, ground := Ground.data }, { on := 8, ground := Ground.chain }, { on := 0, ground := Ground.phase }, { on := 1, ground := Ground.phase }, { on := 2, ground := Ground.phase }, { on := 3, ground := Ground.phase }, { on := 4, ground := Ground.phase }, { on := 5, ground := Ground.phase }, { on := 6, ground := Ground.phase }, { on := 7, ground := Ground.phase }, { on := 8, ground := Ground.phase }, { on := 9, ground := Ground.phase }, { on := 10, ground := Ground.phase }, { on := 11, ground := Ground.textOnly Departure.lateStores }, { on := 12, ground := Ground.textOnly Departure.lateStores }], guard := none }) rfl (fun K hK => ?_) AllReadyH.nil
          obtain ⟨⟨qz0, qz1, qz2, qz3, qz4⟩, ⟨qzf0, qzf1, qzf2, qzf3, qzf4⟩, qzl⟩ := block5 (unhide Kq_c04)
          go_simp
          clear qz0 qz1 qz2 qz3 qz4 qzf0 qzf1 qzf2 qzf3 qzf4 qzl
          refine hK.out _ _ (unhide HSS _ (put5_below (y0 := .int .i64 cap5) (y1 := .slice x5 items5.length y5) (y2 := .bool closed5) (y3 := .slice xs5 ss5.length ys5) (y4 := .slice xg5 gs5.length yg5) (unhide HX_c04) (show w.heap.size ≤ Q by omega)) ((put5_keep (y0 := .int .i64 cap5) (y1 := .slice x5 items5.length y5) (y2 := .bool closed5) (y3 := .slice xs5 ss5.length ys5) (y4 := .slice xg5 gs5.length yg5) (show w.heap.size ≠ Q by omega)).trans (unhide Kp_c04))) (fun hHeld => ?_)
          clear hK K
          try simp only [Act.put, List.setIfInBounds_toArray, List.set_cons_zero, List.set_cons_succ]
          have HX_c05 := hide (put5_below (y0 := .int .i64 cap5) (y1 := .slice x5 items5.length y5) (y2 := .bool closed5) (y3 := .slice xs5 ss5.length ys5) (y4 := .slice xg5 gs5.length yg5) (unhide HX_c04) (show w.heap.size ≤ Q by omega))
          have Kp_c05 := hide ((put5_keep (y0 := .int .i64 cap5) (y1 := .slice x5 items5.length y5) (y2 := .bool closed5) (y3 := .slice xs5 ss5.length ys5) (y4 := .slice xg5 gs5.length yg5) (show w.heap.size ≠ Q by omega)).trans (unhide Kp_c04))
          have Kq_c05 := hide (put5_new (y0 := .int .i64 cap5) (y1 := .slice x5 items5.length y5) (y2 := .bool closed5) (y3 := .slice xs5 ss5.length ys5) (y4 := .slice xg5 gs5.length yg5) (unhide Kq_c04))
          have Ka_c05 := hide ((put5_keep (y0 := .int .i64 cap5) (y1 := .slice x5 items5.length y5) (y2 := .bool closed5) (y3 := .slice xs5 ss5.length ys5) (y4 := .slice xg5 gs5.length yg5) (show A ≠ Q by omega)).trans (unhide Ka_c04))
          have Kf_c05 := hide ((put5_keep (y0 := .int .i64 cap5) (y1 := .slice x5 items5.length y5) (y2 := .bool closed5) (y3 := .slice xs5 ss5.length ys5) (y4 := .slice xg5 gs5.length yg5) (show F ≠ Q by omega)).trans (unhide Kf_c04))
          have mv_c05 := Mid.var (unhide HMid) (unhide HNP) (unhide HNA) (show Q < B5 by omega) (show w.heap.size ≤ Q by omega) (unhide Kq_c04) (fun _ _ h => by cases h) (grown_put5 w5 Q (.int .i64 cap5) (.slice x5 items5.length y5) (.bool closed5) (.slice xs5 ss5.length ys5) (.slice xg5 gs5.length yg5))
          have FM_c05 := hide mv_c05.1
          have FNP_c05 := hide mv_c05.2.1
          have FNA_c05 := hide mv_c05.2.2
          clear mv_c05
          obtain ⟨W6, eW6⟩ : ∃ X, put5 w5 Q (.int .i64 cap5) (.slice x5 items5.length y5) (.bool closed5) (.slice xs5 ss5.length ys5) (.slice xg5 gs5.length yg5) = X := ⟨_, rfl⟩
          rw [eW6] at HX_c05 Kp_c05 Kq_c05 Ka_c05 Kf_c05 FM_c05 FNP_c05 FNA_c05
          have gW6 : (((((w5).setCell ⟨Q, 0, none⟩ (.int .i64 cap5)).setCell ⟨Q, 1, none⟩ (.slice x5 items5.length y5)).setCell ⟨Q, 2, none⟩ (.bool closed5)).setCell ⟨Q, 3, none⟩ (.slice xs5 ss5.length ys5)).setCell ⟨Q, 4, none⟩ (.slice xg5 gs5.length yg5) = W6 := eW6
          rw [gW6]
          clear eW6 gW6 HX_c04 Kp_c04 Kq_c04 Ka_c04 Kf_c04 HMid HNP HNA
          refine wpAnyH_ready (rs := [14]) (by kernel_rfl) (by simp) ?_
          refine AllReadyH.cons (o := { dst := none, op := Op.store 34 (Operand.tmp 11) (Operand.tmp 46), type := 0, pos := "law05.go:124", after := #[{ on := 11, ground := Ground.data }, { on := 13, ground := Ground.chain }, { on := 0, ground := Ground.phase }, { on := 1, ground := Ground.phase }, { on := 2, ground := Ground.phase }, { on := 3, ground := Ground.phase }, { on := 4, ground := Ground.phase }, { on := 5, ground := Ground.phase }, { on := 6, ground := Ground.phase }, { on := 7, ground := Ground.phase }, { on := 8, ground := Ground.phase }, { on := 9, ground := Ground.phase }, { on := 10, ground := Ground.phase }, { on := 11, ground := Ground.phase }, { on := 12, ground := Ground.textOnly Departure.lateStores }, { on := 13, ground := Ground.phase }], guard := none }) rfl (fun K hK => ?_) AllReadyH.nil
          obtain ⟨⟨az0, az1, az2, az3, az4, az5⟩, ⟨azf0, azf1, azf2, azf3, azf4, azf5⟩, azl⟩ := block6 (unhide Ka_c05)
          go_simp
          clear az0 az1 az2 az3 az4 az5 azf0 azf1 azf2 azf3 azf4 azf5 azl
          refine hK.out _ _ (unhide HSS _ (put6_below (y0 := .bool o0) (y1 := .bool o1) (y2 := .bool o2) (y3 := .int .i64 o3) (y4 := .int .i64 o4) (y5 := .slice xw nw yw) (unhide HX_c05) (show w.heap.size ≤ A by omega)) ((put6_keep (y0 := .bool o0) (y1 := .bool o1) (y2 := .bool o2) (y3 := .int .i64 o3) (y4 := .int .i64 o4) (y5 := .slice xw nw yw) (show w.heap.size ≠ A by omega)).trans (unhide Kp_c05))) (fun hHeld => ?_)
          clear hK K
          try simp only [Act.put, List.setIfInBounds_toArray, List.set_cons_zero, List.set_cons_succ]
          have HX_c06 := hide (put6_below (y0 := .bool o0) (y1 := .bool o1) (y2 := .bool o2) (y3 := .int .i64 o3) (y4 := .int .i64 o4) (y5 := .slice xw nw yw) (unhide HX_c05) (show w.heap.size ≤ A by omega))
          have Kp_c06 := hide ((put6_keep (y0 := .bool o0) (y1 := .bool o1) (y2 := .bool o2) (y3 := .int .i64 o3) (y4 := .int .i64 o4) (y5 := .slice xw nw yw) (show w.heap.size ≠ A by omega)).trans (unhide Kp_c05))
          have Kq_c06 := hide ((put6_keep (y0 := .bool o0) (y1 := .bool o1) (y2 := .bool o2) (y3 := .int .i64 o3) (y4 := .int .i64 o4) (y5 := .slice xw nw yw) (show Q ≠ A by omega)).trans (unhide Kq_c05))
          have Ka_c06 := hide (put6_new (y0 := .bool o0) (y1 := .bool o1) (y2 := .bool o2) (y3 := .int .i64 o3) (y4 := .int .i64 o4) (y5 := .slice xw nw yw) (unhide Ka_c05))
          have Kf_c06 := hide ((put6_keep (y0 := .bool o0) (y1 := .bool o1) (y2 := .bool o2) (y3 := .int .i64 o3) (y4 := .int .i64 o4) (y5 := .slice xw nw yw) (show F ≠ A by omega)).trans (unhide Kf_c05))
          have mv_c06 := Mid.var (unhide FM_c05) (unhide FNP_c05) (unhide FNA_c05) (show A < B5 by omega) (show w.heap.size ≤ A by omega) (unhide Ka_c05) (fun _ _ h => by cases h) (grown_put6 W6 A (.bool o0) (.bool o1) (.bool o2) (.int .i64 o3) (.int .i64 o4) (.slice xw nw yw))
          have FM_c06 := hide mv_c06.1
          have FNP_c06 := hide mv_c06.2.1
          have FNA_c06 := hide mv_c06.2.2
          clear mv_c06
          obtain ⟨W7, eW7⟩ : ∃ X, put6 W6 A (.bool o0) (.bool o1) (.bool o2) (.int .i64 o3) (.int .i64 o4) (.slice xw nw yw) = X := ⟨_, rfl⟩
          rw [eW7] at HX_c06 Kp_c06 Kq_c06 Ka_c06 Kf_c06 FM_c06 FNP_c06 FNA_c06
          have gW7 : ((((((W6).setCell ⟨A, 0, none⟩ (.bool o0)).setCell ⟨A, 1, none⟩ (.bool o1)).setCell ⟨A, 2, none⟩ (.bool o2)).setCell ⟨A, 3, none⟩ (.int .i64 o3)).setCell ⟨A, 4, none⟩ (.int .i64 o4)).setCell ⟨A, 5, none⟩ (.slice xw nw yw) = W7 := eW7
          rw [gW7]
          clear eW7 gW7 HX_c05 Kp_c05 Kq_c05 Ka_c05 Kf_c05 FM_c05 FNP_c05 FNA_c05
          refine wpAnyH_ready (rs := [15]) (by kernel_rfl) (by simp) ?_
          refine AllReadyH.cons (o := { dst := none, op := Op.store 30 (Operand.tmp 12) (Operand.tmp 47), type := 0, pos := "law05.go:124", after := #[{ on := 12, ground := Ground.data }, { on := 14, ground := Ground.chain }, { on := 0, ground := Ground.phase }, { on := 1, ground := Ground.phase }, { on := 2, ground := Ground.phase }, { on := 3, ground := Ground.phase }, { on := 4, ground := Ground.phase }, { on := 5, ground := Ground.phase }, { on := 6, ground := Ground.phase }, { on := 7, ground := Ground.phase }, { on := 8, ground := Ground.phase }, { on := 9, ground := Ground.phase }, { on := 10, ground := Ground.phase }, { on := 11, ground := Ground.phase }, { on := 12, ground := Ground.phase }, { on := 13, ground := Ground.phase }, { on := 14, ground := Ground.phase }], guard := none }) rfl (fun K hK => ?_) AllReadyH.nil
          obtain ⟨fz0, fz1, fzf0, fzf1, fzl⟩ := block2 (unhide Kf_c06)
          go_simp
          clear fz0 fz1 fzf0 fzf1 fzl
          refine hK.out _ _ (unhide HSS _ (put2_below (y0 := .int .i64 0) (y1 := .int .i64 0) (unhide HX_c06) (show w.heap.size ≤ F by omega)) ((put2_keep (y0 := .int .i64 0) (y1 := .int .i64 0) (show w.heap.size ≠ F by omega)).trans (unhide Kp_c06))) (fun hHeld => ?_)
          clear hK K
          try simp only [Act.put, List.setIfInBounds_toArray, List.set_cons_zero, List.set_cons_succ]
          have HX_c07 := hide (put2_below (y0 := .int .i64 0) (y1 := .int .i64 0) (unhide HX_c06) (show w.heap.size ≤ F by omega))
          have Kp_c07 := hide ((put2_keep (y0 := .int .i64 0) (y1 := .int .i64 0) (show w.heap.size ≠ F by omega)).trans (unhide Kp_c06))
          have Kq_c07 := hide ((put2_keep (y0 := .int .i64 0) (y1 := .int .i64 0) (show Q ≠ F by omega)).trans (unhide Kq_c06))
          have Ka_c07 := hide ((put2_keep (y0 := .int .i64 0) (y1 := .int .i64 0) (show A ≠ F by omega)).trans (unhide Ka_c06))
          have Kf_c07 := hide (put2_new (y0 := .int .i64 0) (y1 := .int .i64 0) (unhide Kf_c06))
          have mv_c07 := Mid.var (unhide FM_c06) (unhide FNP_c06) (unhide FNA_c06) (show F < B5 by omega) (show w.heap.size ≤ F by omega) (unhide Kf_c06) (fun _ _ h => by cases h) (grown_put2 W7 F (.int .i64 0) (.int .i64 0))
          have FM_c07 := hide mv_c07.1
          have FNP_c07 := hide mv_c07.2.1
          have FNA_c07 := hide mv_c07.2.2
          clear mv_c07
          obtain ⟨W8, eW8⟩ : ∃ X, put2 W7 F (.int .i64 0) (.int .i64 0) = X := ⟨_, rfl⟩
          rw [eW8] at HX_c07 Kp_c07 Kq_c07 Ka_c07 Kf_c07 FM_c07 FNP_c07 FNA_c07
          have gW8 : ((W7).setCell ⟨F, 0, none⟩ (.int .i64 0)).setCell ⟨F, 1, none⟩ (.int .i64 0) = W8 := eW8
          rw [gW8]
          clear eW8 gW8 HX_c06 Kp_c06 Kq_c06 Ka_c06 Kf_c06 FM_c06 FNP_c06 FNA_c06
          refine wpAnyH_done (by kernel_rfl) ?_ _
          cases o0 with
          | false =>
            obtain ⟨⟨az0, az1, az2, az3, az4, az5⟩, ⟨azf0, azf1, azf2, azf3, azf4, azf5⟩, azl⟩ := block6 (unhide Ka_c07)
            go_wp2_with fail
            go_meet
            case rel => exact ⟨ls, lg, sent, got, as_, ag, cs, cg, cap5, items5, closed5, ss5, gs5, false, o1, o2, o3, o4, wk, x5, xs5, xg5, xw, y5, ys5, yg5, nw, yw, rfl, rfl, unhide HLS, unhide HLG, unhide HNW, unhide HWL, unhide Kp_c07, unhide Kq_c07, unhide Ka_c07, unhide Kf_c07, unhide FM_c07, (by have h9 := unhide HINV; rw [sentM_no (by decide), List.append_nil]; simpa [sentA] using h9), fun hm => absurd hm (by decide)⟩
          | true =>
            cases o1 with
            | false =>
              have HLsq := HLS; have HL1q : Hid (ls ≤ 301) := (by have h9 := (unhide HINV).len; simp only [List.length_append] at h9; show ls ≤ 301; rw [unhide HLS]; omega)
              obtain ⟨⟨az0, az1, az2, az3, az4, az5⟩, ⟨azf0, azf1, azf2, azf3, azf4, azf5⟩, azl⟩ := block6 (unhide Ka_c07)
              go_wp2_with (at_builtin; refine wpList_append2 ki rfl (.tmp 55) (.tmp 57) rfl w.heap.size _ sent rfl ((unhide FM_c07).os.below ((Below.refl _ _).alloc (Nat.le_refl _) (.cells #[.int .i64 (j : Int)] 3))) _ [(j : Int)] rfl (isl_one ki W8 ((j : Int))) (ls + 1) (by rw [← unhide HLsq]; rfl) (by show (ls + 1) * 8 ≤ 140737488355328; have hz1 := unhide HL1q; omega) (Nat.le_trans (unhide FM_c07).sz (by simp only [World.size_alloc]; exact Nat.le_succ _)) ?_; intro bq dq W9 ho6 hg6 hl6; have FM_c08 := hide (Mid.sends ((unhide FM_c07).below ((Below.refl _ _).alloc (Nat.le_refl _) (.cells #[.int .i64 (j : Int)] 3))) ho6 hg6 hl6); have HX_c08 := hide (unhide FM_c08).bel; have Kp_c08 := hide (keep_grown (keep_alloc (unhide Kp_c07) (.cells #[.int .i64 (j : Int)] 3)) hg6 (fun j' hj' => Own.ne ((unhide FM_c07).os.below ((Below.refl _ _).alloc (Nat.le_refl _) (.cells #[.int .i64 (j : Int)] 3))) (keep_alloc (unhide Kp_c07) (.cells #[.int .i64 (j : Int)] 3)) (by decide) j' hj')); have Kq_c08 := hide (keep_grown (keep_alloc (unhide Kq_c07) (.cells #[.int .i64 (j : Int)] 3)) hg6 (fun j' hj' => Own.ne ((unhide FM_c07).os.below ((Below.refl _ _).alloc (Nat.le_refl _) (.cells #[.int .i64 (j : Int)] 3))) (keep_alloc (unhide Kq_c07) (.cells #[.int .i64 (j : Int)] 3)) (by decide) j' hj')); have Ka_c08 := hide (keep_grown (keep_alloc (unhide Ka_c07) (.cells #[.int .i64 (j : Int)] 3)) hg6 (fun j' hj' => Own.ne ((unhide FM_c07).os.below ((Below.refl _ _).alloc (Nat.le_refl _) (.cells #[.int .i64 (j : Int)] 3))) (keep_alloc (unhide Ka_c07) (.cells #[.int .i64 (j : Int)] 3)) (by decide) j' hj')); have Kf_c08 := hide (keep_grown (keep_alloc (unhide Kf_c07) (.cells #[.int .i64 (j : Int)] 3)) hg6 (fun j' hj' => Own.ne ((unhide FM_c07).os.below ((Below.refl _ _).alloc (Nat.le_refl _) (.cells #[.int .i64 (j : Int)] 3))) (keep_alloc (unhide Kf_c07) (.cells #[.int .i64 (j : Int)] 3)) (by decide) j' hj')); clear ho6 hg6 hl6 HX_c07 FM_c07 Kp_c07 Kq_c07 Ka_c07 Kf_c07)
              go_meet
              case rel => exact ⟨(ls + 1), lg, (sent ++ [(j : Int)]), got, bq, ag, dq, cg, cap5, items5, closed5, ss5, gs5, true, false, o2, o3, o4, wk, x5, xs5, xg5, xw, y5, ys5, yg5, nw, yw, rfl, rfl, (by rw [List.length_append, ← unhide HLS]; rfl), unhide HLG, unhide HNW, unhide HWL, unhide Kp_c08, unhide Kq_c08, unhide Ka_c08, unhide Kf_c08, unhide FM_c08, (by have h9 := unhide HINV; rw [sentM_no (by decide), List.append_nil]; simpa [sentA] using h9), fun hm => absurd hm (by decide)⟩
            | true =>
              obtain ⟨⟨az0, az1, az2, az3, az4, az5⟩, ⟨azf0, azf1, azf2, azf3, azf4, azf5⟩, azl⟩ := block6 (unhide Ka_c07)
              go_wp2_with fail
              go_meet
              case rel => exact ⟨ls, lg, sent, got, as_, ag, cs, cg, cap5, items5, closed5, ss5, gs5, true, true, o2, o3, o4, wk, x5, xs5, xg5, xw, y5, ys5, yg5, nw, yw, rfl, rfl, unhide HLS, unhide HLG, unhide HNW, unhide HWL, unhide Kp_c07, unhide Kq_c07, unhide Ka_c07, unhide Kf_c07, unhide FM_c07, (by have h9 := unhide HINV; rw [sentM_no (by decide), List.append_nil]; simpa [sentA] using h9), fun hm => absurd hm (by decide)⟩
        · go_upto_region 12 with fail
          clear km
          have hz0 := inv_task (unhide FY_3).inv hj3
          have hinv := inv_send (t := true) (unhide FY_3).inv hj3
          have HCA : Hid (∀ W v', IsPipe W v' ⟨pcap, items, closed, ss, gs⟩ → Calls Try.prog 13 #[v', .int .i64 ((j : Int) + 1), .int .i64 (j : Int), .bool true] W fun e w' => ∃ v1 v2, e = .returned (.tuple #[v1, v2, .agg #[.int .i64 0, .int .i64 0]]) ∧ NewPipe W.heap.size w' v1 (sendL ⟨pcap, items, closed, ss, gs⟩ ((j : Int) + 1, 0, (j : Int)) true).1 ∧ NewAns W.heap.size w' v2 (sendL ⟨pcap, items, closed, ss, gs⟩ ((j : Int) + 1, 0, (j : Int)) true).2 ∧ Below W.heap.size W w') := fun W v' hW => (by have h9 := Send_any W v' ⟨pcap, items, closed, ss, gs⟩ ((j : Int) + 1) (j : Int) true hW (unhide HSHP); unfold sendR at h9; rw [hz0] at h9; exact h9)
          have hwl : (sendL ⟨pcap, items, closed, ss, gs⟩ ((j : Int) + 1, 0, (j : Int)) true).2.wakes.length ≤ 6000 := (by have h9 := (sendR_short (P := ⟨pcap, items, closed, ss, gs⟩) (x := (j : Int) + 1) (u := (j : Int)) (try_ := true) (unhide HCN)).2; unfold sendR at h9; rw [hz0, if_pos rfl] at h9; omega)
          obtain ⟨⟨⟨cap5, items5, closed5, ss5, gs5⟩, ⟨o0, o1, o2, o3, o4, wk⟩⟩, hR⟩ : ∃ X, sendL ⟨pcap, items, closed, ss, gs⟩ ((j : Int) + 1, 0, (j : Int)) true = X := ⟨_, rfl⟩
          rw [hR] at hinv HCA hwl
          simp only at hinv HCA hwl
          have HINV := hide hinv; have HGD : Hid (pipeF ⟨cap5, items5, closed5, ss5, gs5⟩ = (0, 0)) := (good_iff _).2 hinv.good; have HSH : Hid (Short ⟨cap5, items5, closed5, ss5, gs5⟩) := short_of (Nat.le_trans hinv.good.cnt (by decide))
          obtain ⟨nw, enw⟩ : ∃ k, wk.length = k := ⟨_, rfl⟩
          have HNW := hide enw
          have HWL : Hid (nw ≤ 6000) := (by rw [← enw]; exact hwl)
          clear hz0 hinv hwl hR enw
          have HSS : Hid (∀ W, Below w.heap.size w W → W.heap[w.heap.size]? = some (.cells #[.int .i64 pcap, .slice a1 n1 c1, .bool closed, .slice a2 n2 c2, .slice a3 n3 c3] 25) → (W.cell? ⟨w.heap.size, 0, none⟩ = some (.int .i64 pcap) ∧ W.cell? ⟨w.heap.size, 1, none⟩ = some (.slice a1 n1 c1) ∧ W.cell? ⟨w.heap.size, 2, none⟩ = some (.bool closed) ∧ W.cell? ⟨w.heap.size, 3, none⟩ = some (.slice a2 n2 c2) ∧ W.cell? ⟨w.heap.size, 4, none⟩ = some (.slice a3 n3 c3)) ∧ W.cell? ⟨bm, om + j, none⟩ = some (.int .i64 1)) := fun W hW hk => ⟨(block5 hk).1, unhide HMC W hW⟩
          refine wp_region_held_drew (S := fun W => (W.cell? ⟨w.heap.size, 0, none⟩ = some (.int .i64 pcap) ∧ W.cell? ⟨w.heap.size, 1, none⟩ = some (.slice a1 n1 c1) ∧ W.cell? ⟨w.heap.size, 2, none⟩ = some (.bool closed) ∧ W.cell? ⟨w.heap.size, 3, none⟩ = some (.slice a2 n2 c2) ∧ W.cell? ⟨w.heap.size, 4, none⟩ = some (.slice a3 n3 c3)) ∧ W.cell? ⟨bm, om + j, none⟩ = some (.int .i64 1)) (by kernel_rfl) (unhide HSS _ (unhide HX_3).drew (unhide Kp_3)) (fun hHeld => ?_)
          refine wpAnyH_take (i := 0) (oi := { dst := some 36, op := Op.load 25 (Operand.tmp 6), type := 25, pos := "law05.go:124", after := #[], guard := none }) (v := ?v0m1) rfl (by kernel_rfl) (by kernel_rfl) (by kernel_rfl) (fun _ _ _ h => h) (Or.inl ⟨by rfl, ?y0m1⟩) (by assumption) ?r0m1
          case y0m1 => (intro w hSw; (try dsimp only at hSw); go_simp; try with_reducible rfl)
          try simp only [Act.put, List.setIfInBounds_toArray, List.set_cons_zero, List.set_cons_succ]
          refine wpAnyH_take (i := 1) (oi := { dst := some 37, op := Op.move (Operand.tmp 9), type := 3, pos := "law05.go:124", after := #[], guard := none }) (v := ?v1m1) rfl (by kernel_rfl) (by kernel_rfl) (by kernel_rfl) (fun _ _ _ h => h) (Or.inl ⟨by rfl, ?y1m1⟩) (by assumption) ?r1m1
          case y1m1 => (intro w hSw; (try dsimp only at hSw); go_simp; try with_reducible rfl)
          try simp only [Act.put, List.setIfInBounds_toArray, List.set_cons_zero, List.set_cons_succ]
          refine wpAnyH_take (i := 2) (oi := { dst := some 38, op := Op.move (Operand.tmp 8), type := 3, pos := "law05.go:124", after := #[], guard := none }) (v := ?v2m1) rfl (by kernel_rfl) (by kernel_rfl) (by kernel_rfl) (fun _ _ _ h => h) (Or.inl ⟨by rfl, ?y2m1⟩) (by assumption) ?r2m1
          case y2m1 => (intro w hSw; (try dsimp only at hSw); go_simp; try with_reducible rfl)
          try simp only [Act.put, List.setIfInBounds_toArray, List.set_cons_zero, List.set_cons_succ]
          refine wpAnyH_take (i := 3) (oi := { dst := some 39, op := Op.move (Operand.tmp 1), type := 22, pos := "law05.go:124", after := #[], guard := none }) (v := ?v3m1) rfl (by kernel_rfl) (by kernel_rfl) (by kernel_rfl) (fun _ _ _ h => h) (Or.inl ⟨by rfl, ?y3m1⟩) (by assumption) ?r3m1
          case y3m1 => (intro w hSw; (try dsimp only at hSw); go_simp; try with_reducible rfl)
          try simp only [Act.put, List.setIfInBounds_toArray, List.set_cons_zero, List.set_cons_succ]
          refine wpAnyH_take (i := 4) (oi := { dst := some 40, op := Op.move (Operand.tmp 8), type := 3, pos := "law05.go:124", after := #[], guard := none }) (v := ?v4m1) rfl (by kernel_rfl) (by kernel_rfl) (by kernel_rfl) (fun _ _ _ h => h) (Or.inl ⟨by rfl, ?y4m1⟩) (by assumption) ?r4m1
          case y4m1 => (intro w hSw; (try dsimp only at hSw); go_simp; try with_reducible rfl)
          try simp only [Act.put, List.setIfInBounds_toArray, List.set_cons_zero, List.set_cons_succ]
          refine wpAnyH_take (i := 5) (oi := { dst := some 41, op := Op.indexAddr 22 (Operand.tmp 39) (Operand.tmp 40), type := 0, pos := "law05.go:124", after := #[{ on := 3, ground := Ground.data }, { on := 4, ground := Ground.data }], guard := none }) (v := ?v5m1) rfl (by kernel_rfl) (by kernel_rfl) (by kernel_rfl) (fun _ _ _ h => h) (Or.inl ⟨by rfl, ?y5m1⟩) (by assumption) ?r5m1
          case y5m1 => (intro w hSw; (try dsimp only at hSw); go_simp; try with_reducible rfl)
          try simp only [Act.put, List.setIfInBounds_toArray, List.set_cons_zero, List.set_cons_succ]
          refine wpAnyH_take (i := 6) (oi := { dst := some 42, op := Op.load 3 (Operand.tmp 41), type := 3, pos := "law05.go:124", after := #[{ on := 5, ground := Ground.data }], guard := none }) (v := ?v6m1) rfl (by kernel_rfl) (by kernel_rfl) (by kernel_rfl) (fun _ _ _ h => h) (Or.inl ⟨by rfl, ?y6m1⟩) (by assumption) ?r6m1
          case y6m1 => (intro w hSw; (try dsimp only at hSw); go_simp; try with_reducible rfl)
          try simp only [Act.put, List.setIfInBounds_toArray, List.set_cons_zero, List.set_cons_succ]
          refine wpAnyH_take (i := 7) (oi := { dst := some 43, op := Op.binOp BinOp.eql 3 (Operand.tmp 42) (Operand.const (Value.int IntKind.i64 1)) 3, type := 4, pos := "law05.go:124", after := #[{ on := 6, ground := Ground.data }], guard := none }) (v := ?v7m1) rfl (by kernel_rfl) (by kernel_rfl) (by kernel_rfl) (fun _ _ _ h => h) (Or.inl ⟨by rfl, ?y7m1⟩) (by assumption) ?r7m1
          case y7m1 => (intro w hSw; (try dsimp only at hSw); go_simp; try with_reducible rfl)
          try simp only [Act.put, List.setIfInBounds_toArray, List.set_cons_zero, List.set_cons_succ]
          refine wpAnyH_ready (rs := [8]) (by kernel_rfl) (by simp) ?_
          refine AllReadyH.cons (o := { dst := some 44, op := Op.call { callee := Callee.value (Operand.func 13), args := #[Operand.tmp 36, Operand.tmp 37, Operand.tmp 38, Operand.tmp 43], argTypes := #[25, 3, 3, 4] }, type := 35, pos := "law05.go:124", after := #[{ on := 0, ground := Ground.data }, { on := 1, ground := Ground.data }, { on := 2, ground := Ground.data }, { on := 7, ground := Ground.data }], guard := none }) rfl (fun K hK => ?_) AllReadyH.nil
          go_simp
          go_at_call 13
          refine (unhide HCA _ _ ((unhide FY_3).pipe.below (Below.refl _ _).drew)).mono ?_
          rintro e w5 ⟨v1, v2, rfl, hq7, ha7, hb7⟩
          have hb5 : Below W4.heap.size W4 w5 := Below.next (Below.refl _ _).drew hb7 (Nat.le_refl _)
          obtain ⟨B5, eB5⟩ : ∃ X, W4.heap.size = X := ⟨_, rfl⟩
          have hq8 : NewPipe B5 w5 v1 ⟨cap5, items5, closed5, ss5, gs5⟩ := (by rw [← eB5]; exact hq7)
          have ha8 : NewAns B5 w5 v2 ⟨o0, o1, o2, o3, o4, wk⟩ := (by rw [← eB5]; exact ha7)
          have hB5p : w.heap.size < B5 := (by rw [← eB5]; exact size_of (unhide Kp_3))
          have hB5q : Q < B5 := (by rw [← eB5]; exact size_of (unhide Kq_3))
          have hB5a : A < B5 := (by rw [← eB5]; exact size_of (unhide Ka_3))
          have hB5f : F < B5 := (by rw [← eB5]; exact size_of (unhide Kf_3))
          have HMid := hide (Play.mid (unhide FY_3) hb5 hq8 ha8 (Nat.le_of_eq eB5) (show w.heap.size < B5 from hB5p))
          have HNP := hide hq8; have HNA := hide ha8
          obtain ⟨x5, y5, xs5, ys5, xg5, yg5, rfl, -, -, -⟩ := NewPipe.form' hq8
          obtain ⟨xw, yw, rfl, -⟩ := NewAns.form' ha8
          rw [unhide HNW] at HMid HNA ⊢
          have HX_c14 := hide (Below.next (unhide HX_3) hb5 (by first | exact Nat.le_refl _ | (have := unhide HBA; omega))); have Kp_c14 := hide (keep_below (unhide Kp_3) hb5); have Kq_c14 := hide (keep_below (unhide Kq_3) hb5); have Ka_c14 := hide (keep_below (unhide Ka_3) hb5); have Kf_c14 := hide (keep_below (unhide Kf_3) hb5); clear HX_3 Kp_3 Kq_3 Ka_3 Kf_3
          clear hb5 hb7 hq7 ha7 hq8 ha8 eB5 FY_3
          refine hK.out _ _ (unhide HSS _ (unhide HX_c14) (unhide Kp_c14)) (fun hHeld => ?_)
          clear hK K
          try simp only [Act.put, List.setIfInBounds_toArray, List.set_cons_zero, List.set_cons_succ]
          refine wpAnyH_take (i := 9) (oi := { dst := some 35, op := Op.move (Operand.tmp 44), type := 35, pos := "law05.go:124", after := #[{ on := 8, ground := Ground.data }], guard := none }) (v := ?v9m1) rfl (by kernel_rfl) (by kernel_rfl) (by kernel_rfl) (fun _ _ _ h => h) (Or.inl ⟨by rfl, ?y9m1⟩) (by assumption) ?r9m1
          case y9m1 => (intro w hSw; (try dsimp only at hSw); go_simp; try with_reducible rfl)
          try simp only [Act.put, List.setIfInBounds_toArray, List.set_cons_zero, List.set_cons_succ]
          refine wpAnyH_take (i := 10) (oi := { dst := some 45, op := Op.extract (Operand.tmp 35) 0, type := 25, pos := "law05.go:124", after := #[{ on := 9, ground := Ground.data }], guard := none }) (v := ?v10m1) rfl (by kernel_rfl) (by kernel_rfl) (by kernel_rfl) (fun _ _ _ h => h) (Or.inl ⟨by rfl, ?y10m1⟩) (by assumption) ?r10m1
          case y10m1 => (intro w hSw; (try dsimp only at hSw); go_simp; try with_reducible rfl)
          try simp only [Act.put, List.setIfInBounds_toArray, List.set_cons_zero, List.set_cons_succ]
          refine wpAnyH_take (i := 11) (oi := { dst := some 46, op := Op.extract (Operand.tmp 35) 1, type := 34, pos := "law05.go:124", after := #[{ on := 9, ground := Ground.data }, { on := 13, ground := Ground.gcOnly Departure.lateStores }], guard := none }) (v := ?v11m1) rfl (by kernel_rfl) (by kernel_rfl) (by kernel_rfl) (fun _ _ _ h => h) (Or.inl ⟨by rfl, ?y11m1⟩) (by assumption) ?r11m1
          case y11m1 => (intro w hSw; (try dsimp only at hSw); go_simp; try with_reducible rfl)
          try simp only [Act.put, List.setIfInBounds_toArray, List.set_cons_zero, List.set_cons_succ]
          refine wpAnyH_take (i := 12) (oi := { dst := some 47, op := Op.extract (Operand.tmp 35) 2, type := 30, pos := "law05.go:124", after := #[{ on := 9, ground := Ground.data }, { on := 14, ground := Ground.gcOnly Departure.lateStores }], guard := none }) (v := ?v12m1) rfl (by kernel_rfl) (by kernel_rfl) (by kernel_rfl) (fun _ _ _ h => h) (Or.inl ⟨by rfl, ?y12m1⟩) (by assumption) ?r12m1
          case y12m1 => (intro w hSw; (try dsimp only at hSw); go_simp; try with_reducible rfl)
          try simp only [Act.put, List.setIfInBounds_toArray, List.set_cons_zero, List.set_cons_succ]
          refine wpAnyH_ready (rs := [13]) (by kernel_rfl) (by simp) ?_
          refine AllReadyH.cons (o := { dst := none, op := Op.store 25 (Operand.tmp 10) (Operand.tmp 45), type := 0, pos := "law05.go:124", after := #[{ on := 10, ground := Ground.data }, { on := 8, ground := Ground.chain }, { on := 0, ground := Ground.phase }, { on := 1, ground := Ground.phase }, { on := 2, ground := Ground.phase }, { on := 3, ground := Ground.phase }, { on := 4, ground := Ground.phase }, { on := 5, ground := Ground.phase }, { on := 6, ground := Ground.phase }, { on := 7, ground := Ground.phase }, { on := 8, ground := Ground.phase }, { on := 9, ground := Ground.phase }, { on := 10, ground := Ground.phase }, { on := 11, ground := Ground.textOnly Departure.lateStores }, { on := 12, ground := Ground.textOnly Departure.lateStores }], guard := none }) rfl (fun K hK => ?_) AllReadyH.nil
          obtain ⟨⟨qz0, qz1, qz2, qz3, qz4⟩, ⟨qzf0, qzf1, qzf2, qzf3, qzf4⟩, qzl⟩ := block5 (unhide Kq_c14)
          go_simp
          clear qz0 qz1 qz2 qz3 qz4 qzf0 qzf1 qzf2 qzf3 qzf4 qzl
          refine hK.out _ _ (unhide HSS _ (put5_below (y0 := .int .i64 cap5) (y1 := .slice x5 items5.length y5) (y2 := .bool closed5) (y3 := .slice xs5 ss5.length ys5) (y4 := .slice xg5 gs5.length yg5) (unhide HX_c14) (show w.heap.size ≤ Q by omega)) ((put5_keep (y0 := .int .i64 cap5) (y1 := .slice x5 items5.length y5) (y2 := .bool closed5) (y3 := .slice xs5 ss5.length ys5) (y4 := .slice xg5 gs5.length yg5) (show w.heap.size ≠ Q by omega)).trans (unhide Kp_c14))) (fun hHeld => ?_)
          clear hK K
          try simp only [Act.put, List.setIfInBounds_toArray, List.set_cons_zero, List.set_cons_succ]
          have HX_c15 := hide (put5_below (y0 := .int .i64 cap5) (y1 := .slice x5 items5.length y5) (y2 := .bool closed5) (y3 := .slice xs5 ss5.length ys5) (y4 := .slice xg5 gs5.length yg5) (unhide HX_c14) (show w.heap.size ≤ Q by omega))
          have Kp_c15 := hide ((put5_keep (y0 := .int .i64 cap5) (y1 := .slice x5 items5.length y5) (y2 := .bool closed5) (y3 := .slice xs5 ss5.length ys5) (y4 := .slice xg5 gs5.length yg5) (show w.heap.size ≠ Q by omega)).trans (unhide Kp_c14))
          have Kq_c15 := hide (put5_new (y0 := .int .i64 cap5) (y1 := .slice x5 items5.length y5) (y2 := .bool closed5) (y3 := .slice xs5 ss5.length ys5) (y4 := .slice xg5 gs5.length yg5) (unhide Kq_c14))
          have Ka_c15 := hide ((put5_keep (y0 := .int .i64 cap5) (y1 := .slice x5 items5.length y5) (y2 := .bool closed5) (y3 := .slice xs5 ss5.length ys5) (y4 := .slice xg5 gs5.length yg5) (show A ≠ Q by omega)).trans (unhide Ka_c14))
          have Kf_c15 := hide ((put5_keep (y0 := .int .i64 cap5) (y1 := .slice x5 items5.length y5) (y2 := .bool closed5) (y3 := .slice xs5 ss5.length ys5) (y4 := .slice xg5 gs5.length yg5) (show F ≠ Q by omega)).trans (unhide Kf_c14))
          have mv_c15 := Mid.var (unhide HMid) (unhide HNP) (unhide HNA) (show Q < B5 by omega) (show w.heap.size ≤ Q by omega) (unhide Kq_c14) (fun _ _ h => by cases h) (grown_put5 w5 Q (.int .i64 cap5) (.slice x5 items5.length y5) (.bool closed5) (.slice xs5 ss5.length ys5) (.slice xg5 gs5.length yg5))
          have FM_c15 := hide mv_c15.1
          have FNP_c15 := hide mv_c15.2.1
          have FNA_c15 := hide mv_c15.2.2
          clear mv_c15
          obtain ⟨W6, eW6⟩ : ∃ X, put5 w5 Q (.int .i64 cap5) (.slice x5 items5.length y5) (.bool closed5) (.slice xs5 ss5.length ys5) (.slice xg5 gs5.length yg5) = X := ⟨_, rfl⟩
          rw [eW6] at HX_c15 Kp_c15 Kq_c15 Ka_c15 Kf_c15 FM_c15 FNP_c15 FNA_c15
          have gW6 : (((((w5).setCell ⟨Q, 0, none⟩ (.int .i64 cap5)).setCell ⟨Q, 1, none⟩ (.slice x5 items5.length y5)).setCell ⟨Q, 2, none⟩ (.bool closed5)).setCell ⟨Q, 3, none⟩ (.slice xs5 ss5.length ys5)).setCell ⟨Q, 4, none⟩ (.slice xg5 gs5.length yg5) = W6 := eW6
          rw [gW6]
          clear eW6 gW6 HX_c14 Kp_c14 Kq_c14 Ka_c14 Kf_c14 HMid HNP HNA
          refine wpAnyH_ready (rs := [14]) (by kernel_rfl) (by simp) ?_
          refine AllReadyH.cons (o := { dst := none, op := Op.store 34 (Operand.tmp 11) (Operand.tmp 46), type := 0, pos := "law05.go:124", after := #[{ on := 11, ground := Ground.data }, { on := 13, ground := Ground.chain }, { on := 0, ground := Ground.phase }, { on := 1, ground := Ground.phase }, { on := 2, ground := Ground.phase }, { on := 3, ground := Ground.phase }, { on := 4, ground := Ground.phase }, { on := 5, ground := Ground.phase }, { on := 6, ground := Ground.phase }, { on := 7, ground := Ground.phase }, { on := 8, ground := Ground.phase }, { on := 9, ground := Ground.phase }, { on := 10, ground := Ground.phase }, { on := 11, ground := Ground.phase }, { on := 12, ground := Ground.textOnly Departure.lateStores }, { on := 13, ground := Ground.phase }], guard := none }) rfl (fun K hK => ?_) AllReadyH.nil
          obtain ⟨⟨az0, az1, az2, az3, az4, az5⟩, ⟨azf0, azf1, azf2, azf3, azf4, azf5⟩, azl⟩ := block6 (unhide Ka_c15)
          go_simp
          clear az0 az1 az2 az3 az4 az5 azf0 azf1 azf2 azf3 azf4 azf5 azl
          refine hK.out _ _ (unhide HSS _ (put6_below (y0 := .bool o0) (y1 := .bool o1) (y2 := .bool o2) (y3 := .int .i64 o3) (y4 := .int .i64 o4) (y5 := .slice xw nw yw) (unhide HX_c15) (show w.heap.size ≤ A by omega)) ((put6_keep (y0 := .bool o0) (y1 := .bool o1) (y2 := .bool o2) (y3 := .int .i64 o3) (y4 := .int .i64 o4) (y5 := .slice xw nw yw) (show w.heap.size ≠ A by omega)).trans (unhide Kp_c15))) (fun hHeld => ?_)
          clear hK K
          try simp only [Act.put, List.setIfInBounds_toArray, List.set_cons_zero, List.set_cons_succ]
          have HX_c16 := hide (put6_below (y0 := .bool o0) (y1 := .bool o1) (y2 := .bool o2) (y3 := .int .i64 o3) (y4 := .int .i64 o4) (y5 := .slice xw nw yw) (unhide HX_c15) (show w.heap.size ≤ A by omega))
          have Kp_c16 := hide ((put6_keep (y0 := .bool o0) (y1 := .bool o1) (y2 := .bool o2) (y3 := .int .i64 o3) (y4 := .int .i64 o4) (y5 := .slice xw nw yw) (show w.heap.size ≠ A by omega)).trans (unhide Kp_c15))
          have Kq_c16 := hide ((put6_keep (y0 := .bool o0) (y1 := .bool o1) (y2 := .bool o2) (y3 := .int .i64 o3) (y4 := .int .i64 o4) (y5 := .slice xw nw yw) (show Q ≠ A by omega)).trans (unhide Kq_c15))
          have Ka_c16 := hide (put6_new (y0 := .bool o0) (y1 := .bool o1) (y2 := .bool o2) (y3 := .int .i64 o3) (y4 := .int .i64 o4) (y5 := .slice xw nw yw) (unhide Ka_c15))
          have Kf_c16 := hide ((put6_keep (y0 := .bool o0) (y1 := .bool o1) (y2 := .bool o2) (y3 := .int .i64 o3) (y4 := .int .i64 o4) (y5 := .slice xw nw yw) (show F ≠ A by omega)).trans (unhide Kf_c15))
          have mv_c16 := Mid.var (unhide FM_c15) (unhide FNP_c15) (unhide FNA_c15) (show A < B5 by omega) (show w.heap.size ≤ A by omega) (unhide Ka_c15) (fun _ _ h => by cases h) (grown_put6 W6 A (.bool o0) (.bool o1) (.bool o2) (.int .i64 o3) (.int .i64 o4) (.slice xw nw yw))
          have FM_c16 := hide mv_c16.1
          have FNP_c16 := hide mv_c16.2.1
          have FNA_c16 := hide mv_c16.2.2
          clear mv_c16
          obtain ⟨W7, eW7⟩ : ∃ X, put6 W6 A (.bool o0) (.bool o1) (.bool o2) (.int .i64 o3) (.int .i64 o4) (.slice xw nw yw) = X := ⟨_, rfl⟩
          rw [eW7] at HX_c16 Kp_c16 Kq_c16 Ka_c16 Kf_c16 FM_c16 FNP_c16 FNA_c16
          have gW7 : ((((((W6).setCell ⟨A, 0, none⟩ (.bool o0)).setCell ⟨A, 1, none⟩ (.bool o1)).setCell ⟨A, 2, none⟩ (.bool o2)).setCell ⟨A, 3, none⟩ (.int .i64 o3)).setCell ⟨A, 4, none⟩ (.int .i64 o4)).setCell ⟨A, 5, none⟩ (.slice xw nw yw) = W7 := eW7
          rw [gW7]
          clear eW7 gW7 HX_c15 Kp_c15 Kq_c15 Ka_c15 Kf_c15 FM_c15 FNP_c15 FNA_c15
          refine wpAnyH_ready (rs := [15]) (by kernel_rfl) (by simp) ?_
          refine AllReadyH.cons (o := { dst := none, op := Op.store 30 (Operand.tmp 12) (Operand.tmp 47), type := 0, pos := "law05.go:124", after := #[{ on := 12, ground := Ground.data }, { on := 14, ground := Ground.chain }, { on := 0, ground := Ground.phase }, { on := 1, ground := Ground.phase }, { on := 2, ground := Ground.phase }, { on := 3, ground := Ground.phase }, { on := 4, ground := Ground.phase }, { on := 5, ground := Ground.phase }, { on := 6, ground := Ground.phase }, { on := 7, ground := Ground.phase }, { on := 8, ground := Ground.phase }, { on := 9, ground := Ground.phase }, { on := 10, ground := Ground.phase }, { on := 11, ground := Ground.phase }, { on := 12, ground := Ground.phase }, { on := 13, ground := Ground.phase }, { on := 14, ground := Ground.phase }], guard := none }) rfl (fun K hK => ?_) AllReadyH.nil
          obtain ⟨fz0, fz1, fzf0, fzf1, fzl⟩ := block2 (unhide Kf_c16)
          go_simp
          clear fz0 fz1 fzf0 fzf1 fzl
          refine hK.out _ _ (unhide HSS _ (put2_below (y0 := .int .i64 0) (y1 := .int .i64 0) (unhide HX_c16) (show w.heap.size ≤ F by omega)) ((put2_keep (y0 := .int .i64 0) (y1 := .int .i64 0) (show w.heap.size ≠ F by omega)).trans (unhide Kp_c16))) (fun hHeld => ?_)
          clear hK K
          try simp only [Act.put, List.setIfInBounds_toArray, List.set_cons_zero, List.set_cons_succ]
          have HX_c17 := hide (put2_below (y0 := .int .i64 0) (y1 := .int .i64 0) (unhide HX_c16) (show w.heap.size ≤ F by omega))
          have Kp_c17 := hide ((put2_keep (y0 := .int .i64 0) (y1 := .int .i64 0) (show w.heap.size ≠ F by omega)).trans (unhide Kp_c16))
          have Kq_c17 := hide ((put2_keep (y0 := .int .i64 0) (y1 := .int .i64 0) (show Q ≠ F by omega)).trans (unhide Kq_c16))
          have Ka_c17 := hide ((put2_keep (y0 := .int .i64 0) (y1 := .int .i64 0) (show A ≠ F by omega)).trans (unhide Ka_c16))
          have Kf_c17 := hide (put2_new (y0 := .int .i64 0) (y1 := .int .i64 0) (unhide Kf_c16))
          have mv_c17 := Mid.var (unhide FM_c16) (unhide FNP_c16) (unhide FNA_c16) (show F < B5 by omega) (show w.heap.size ≤ F by omega) (unhide Kf_c16) (fun _ _ h => by cases h) (grown_put2 W7 F (.int .i64 0) (.int .i64 0))
          have FM_c17 := hide mv_c17.1
          have FNP_c17 := hide mv_c17.2.1
          have FNA_c17 := hide mv_c17.2.2
          clear mv_c17
          obtain ⟨W8, eW8⟩ : ∃ X, put2 W7 F (.int .i64 0) (.int .i64 0) = X := ⟨_, rfl⟩
          rw [eW8] at HX_c17 Kp_c17 Kq_c17 Ka_c17 Kf_c17 FM_c17 FNP_c17 FNA_c17
          have gW8 : ((W7).setCell ⟨F, 0, none⟩ (.int .i64 0)).setCell ⟨F, 1, none⟩ (.int .i64 0) = W8 := eW8
          rw [gW8]
          clear eW8 gW8 HX_c16 Kp_c16 Kq_c16 Ka_c16 Kf_c16 FM_c16 FNP_c16 FNA_c16
          refine wpAnyH_done (by kernel_rfl) ?_ _
          cases o0 with
          | false =>
            obtain ⟨⟨az0, az1, az2, az3, az4, az5⟩, ⟨azf0, azf1, azf2, azf3, azf4, azf5⟩, azl⟩ := block6 (unhide Ka_c17)
            go_wp2_with fail
            go_meet
            case rel => exact ⟨ls, lg, sent, got, as_, ag, cs, cg, cap5, items5, closed5, ss5, gs5, false, o1, o2, o3, o4, wk, x5, xs5, xg5, xw, y5, ys5, yg5, nw, yw, rfl, rfl, unhide HLS, unhide HLG, unhide HNW, unhide HWL, unhide Kp_c17, unhide Kq_c17, unhide Ka_c17, unhide Kf_c17, unhide FM_c17, (by have h9 := unhide HINV; rw [sentM_no (by decide), List.append_nil]; simpa [sentA] using h9), fun hm => absurd hm (by decide)⟩
          | true =>
            cases o1 with
            | false =>
              have HLsq := HLS; have HL1q : Hid (ls ≤ 301) := (by have h9 := (unhide HINV).len; simp only [List.length_append] at h9; show ls ≤ 301; rw [unhide HLS]; omega)
              obtain ⟨⟨az0, az1, az2, az3, az4, az5⟩, ⟨azf0, azf1, azf2, azf3, azf4, azf5⟩, azl⟩ := block6 (unhide Ka_c17)
              go_wp2_with (at_builtin; refine wpList_append2 ki rfl (.tmp 55) (.tmp 57) rfl w.heap.size _ sent rfl ((unhide FM_c17).os.below ((Below.refl _ _).alloc (Nat.le_refl _) (.cells #[.int .i64 (j : Int)] 3))) _ [(j : Int)] rfl (isl_one ki W8 ((j : Int))) (ls + 1) (by rw [← unhide HLsq]; rfl) (by show (ls + 1) * 8 ≤ 140737488355328; have hz1 := unhide HL1q; omega) (Nat.le_trans (unhide FM_c17).sz (by simp only [World.size_alloc]; exact Nat.le_succ _)) ?_; intro bq dq W9 ho6 hg6 hl6; have FM_c18 := hide (Mid.sends ((unhide FM_c17).below ((Below.refl _ _).alloc (Nat.le_refl _) (.cells #[.int .i64 (j : Int)] 3))) ho6 hg6 hl6); have HX_c18 := hide (unhide FM_c18).bel; have Kp_c18 := hide (keep_grown (keep_alloc (unhide Kp_c17) (.cells #[.int .i64 (j : Int)] 3)) hg6 (fun j' hj' => Own.ne ((unhide FM_c17).os.below ((Below.refl _ _).alloc (Nat.le_refl _) (.cells #[.int .i64 (j : Int)] 3))) (keep_alloc (unhide Kp_c17) (.cells #[.int .i64 (j : Int)] 3)) (by decide) j' hj')); have Kq_c18 := hide (keep_grown (keep_alloc (unhide Kq_c17) (.cells #[.int .i64 (j : Int)] 3)) hg6 (fun j' hj' => Own.ne ((unhide FM_c17).os.below ((Below.refl _ _).alloc (Nat.le_refl _) (.cells #[.int .i64 (j : Int)] 3))) (keep_alloc (unhide Kq_c17) (.cells #[.int .i64 (j : Int)] 3)) (by decide) j' hj')); have Ka_c18 := hide (keep_grown (keep_alloc (unhide Ka_c17) (.cells #[.int .i64 (j : Int)] 3)) hg6 (fun j' hj' => Own.ne ((unhide FM_c17).os.below ((Below.refl _ _).alloc (Nat.le_refl _) (.cells #[.int .i64 (j : Int)] 3))) (keep_alloc (unhide Ka_c17) (.cells #[.int .i64 (j : Int)] 3)) (by decide) j' hj')); have Kf_c18 := hide (keep_grown (keep_alloc (unhide Kf_c17) (.cells #[.int .i64 (j : Int)] 3)) hg6 (fun j' hj' => Own.ne ((unhide FM_c17).os.below ((Below.refl _ _).alloc (Nat.le_refl _) (.cells #[.int .i64 (j : Int)] 3))) (keep_alloc (unhide Kf_c17) (.cells #[.int .i64 (j : Int)] 3)) (by decide) j' hj')); clear ho6 hg6 hl6 HX_c17 FM_c17 Kp_c17 Kq_c17 Ka_c17 Kf_c17)
              go_meet
              case rel => exact ⟨(ls + 1), lg, (sent ++ [(j : Int)]), got, bq, ag, dq, cg, cap5, items5, closed5, ss5, gs5, true, false, o2, o3, o4, wk, x5, xs5, xg5, xw, y5, ys5, yg5, nw, yw, rfl, rfl, (by rw [List.length_append, ← unhide HLS]; rfl), unhide HLG, unhide HNW, unhide HWL, unhide Kp_c18, unhide Kq_c18, unhide Ka_c18, unhide Kf_c18, unhide FM_c18, (by have h9 := unhide HINV; rw [sentM_no (by decide), List.append_nil]; simpa [sentA] using h9), fun hm => absurd hm (by decide)⟩
            | true =>
              obtain ⟨⟨az0, az1, az2, az3, az4, az5⟩, ⟨azf0, azf1, azf2, azf3, azf4, azf5⟩, azl⟩ := block6 (unhide Ka_c17)
              go_wp2_with fail
              go_meet
              case rel => exact ⟨ls, lg, sent, got, as_, ag, cs, cg, cap5, items5, closed5, ss5, gs5, true, true, o2, o3, o4, wk, x5, xs5, xg5, xw, y5, ys5, yg5, nw, yw, rfl, rfl, unhide HLS, unhide HLG, unhide HNW, unhide HWL, unhide Kp_c17, unhide Kq_c17, unhide Ka_c17, unhide Kf_c17, unhide FM_c17, (by have h9 := unhide HINV; rw [sentM_no (by decide), List.append_nil]; simpa [sentA] using h9), fun hm => absurd hm (by decide)⟩
        · go_upto_region 17 with fail
          clear km
          have hz0 := inv_task (unhide FY_3).inv hj3
          have hinv := inv_get (t := false) (unhide FY_3).inv hj3
          have HCA : Hid (∀ W v', IsPipe W v' ⟨pcap, items, closed, ss, gs⟩ → Calls Try.prog 20 #[v', .int .i64 ((j : Int) + 1), .bool false] W fun e w' => ∃ v1 v2, e = .returned (.tuple #[v1, v2, .agg #[.int .i64 0, .int .i64 0]]) ∧ NewPipe W.heap.size w' v1 (getL ⟨pcap, items, closed, ss, gs⟩ ((j : Int) + 1, 0, 0) false).1 ∧ NewAns W.heap.size w' v2 (getL ⟨pcap, items, closed, ss, gs⟩ ((j : Int) + 1, 0, 0) false).2 ∧ Below W.heap.size W w') := fun W v' hW => (by have h9 := Get_any W v' ⟨pcap, items, closed, ss, gs⟩ ((j : Int) + 1) false hW (unhide HSHP); unfold getR at h9; rw [hz0] at h9; exact h9)
          have hwl : (getL ⟨pcap, items, closed, ss, gs⟩ ((j : Int) + 1, 0, 0) false).2.wakes.length ≤ 6000 := (by have h9 := (getR_short (P := ⟨pcap, items, closed, ss, gs⟩) (x := (j : Int) + 1) (try_ := false) (unhide HCN)).2; unfold getR at h9; rw [hz0, if_pos rfl] at h9; omega)
          have hwk := get_wakes (t := false) (unhide FY_3).inv
          obtain ⟨⟨⟨cap5, items5, closed5, ss5, gs5⟩, ⟨o0, o1, o2, o3, o4, wk⟩⟩, hR⟩ : ∃ X, getL ⟨pcap, items, closed, ss, gs⟩ ((j : Int) + 1, 0, 0) false = X := ⟨_, rfl⟩
          rw [hR] at hinv HCA hwl hwk
          simp only at hinv HCA hwl hwk
          have HINV := hide hinv; have HGD : Hid (pipeF ⟨cap5, items5, closed5, ss5, gs5⟩ = (0, 0)) := (good_iff _).2 hinv.good; have HSH : Hid (Short ⟨cap5, items5, closed5, ss5, gs5⟩) := short_of (Nat.le_trans hinv.good.cnt (by decide))
          obtain ⟨nw, enw⟩ : ∃ k, wk.length = k := ⟨_, rfl⟩
          have HNW := hide enw
          have HWL : Hid (nw ≤ 6000) := (by rw [← enw]; exact hwl)
          have HWK := hide hwk
          clear hwk
          clear hz0 hinv hwl hR enw
          have HSS : Hid (∀ W, Below w.heap.size w W → W.heap[w.heap.size]? = some (.cells #[.int .i64 pcap, .slice a1 n1 c1, .bool closed, .slice a2 n2 c2, .slice a3 n3 c3] 25) → (W.cell? ⟨w.heap.size, 0, none⟩ = some (.int .i64 pcap) ∧ W.cell? ⟨w.heap.size, 1, none⟩ = some (.slice a1 n1 c1) ∧ W.cell? ⟨w.heap.size, 2, none⟩ = some (.bool closed) ∧ W.cell? ⟨w.heap.size, 3, none⟩ = some (.slice a2 n2 c2) ∧ W.cell? ⟨w.heap.size, 4, none⟩ = some (.slice a3 n3 c3)) ∧ W.cell? ⟨bm, om + j, none⟩ = some (.int .i64 2)) := fun W hW hk => ⟨(block5 hk).1, unhide HMC W hW⟩
          refine wp_region_held_drew (S := fun W => (W.cell? ⟨w.heap.size, 0, none⟩ = some (.int .i64 pcap) ∧ W.cell? ⟨w.heap.size, 1, none⟩ = some (.slice a1 n1 c1) ∧ W.cell? ⟨w.heap.size, 2, none⟩ = some (.bool closed) ∧ W.cell? ⟨w.heap.size, 3, none⟩ = some (.slice a2 n2 c2) ∧ W.cell? ⟨w.heap.size, 4, none⟩ = some (.slice a3 n3 c3)) ∧ W.cell? ⟨bm, om + j, none⟩ = some (.int .i64 2)) (by kernel_rfl) (unhide HSS _ (unhide HX_3).drew (unhide Kp_3)) (fun hHeld => ?_)
          refine wpAnyH_take (i := 0) (oi := { dst := some 63, op := Op.load 25 (Operand.tmp 6), type := 25, pos := "law05.go:129", after := #[], guard := none }) (v := ?v0m2) rfl (by kernel_rfl) (by kernel_rfl) (by kernel_rfl) (fun _ _ _ h => h) (Or.inl ⟨by rfl, ?y0m2⟩) (by assumption) ?r0m2
          case y0m2 => (intro w hSw; (try dsimp only at hSw); go_simp; try with_reducible rfl)
          try simp only [Act.put, List.setIfInBounds_toArray, List.set_cons_zero, List.set_cons_succ]
          refine wpAnyH_take (i := 1) (oi := { dst := some 64, op := Op.move (Operand.tmp 9), type := 3, pos := "law05.go:129", after := #[], guard := none }) (v := ?v1m2) rfl (by kernel_rfl) (by kernel_rfl) (by kernel_rfl) (fun _ _ _ h => h) (Or.inl ⟨by rfl, ?y1m2⟩) (by assumption) ?r1m2
          case y1m2 => (intro w hSw; (try dsimp only at hSw); go_simp; try with_reducible rfl)
          try simp only [Act.put, List.setIfInBounds_toArray, List.set_cons_zero, List.set_cons_succ]
          refine wpAnyH_take (i := 2) (oi := { dst := some 65, op := Op.move (Operand.tmp 1), type := 22, pos := "law05.go:129", after := #[], guard := none }) (v := ?v2m2) rfl (by kernel_rfl) (by kernel_rfl) (by kernel_rfl) (fun _ _ _ h => h) (Or.inl ⟨by rfl, ?y2m2⟩) (by assumption) ?r2m2
          case y2m2 => (intro w hSw; (try dsimp only at hSw); go_simp; try with_reducible rfl)
          try simp only [Act.put, List.setIfInBounds_toArray, List.set_cons_zero, List.set_cons_succ]
          refine wpAnyH_take (i := 3) (oi := { dst := some 66, op := Op.move (Operand.tmp 8), type := 3, pos := "law05.go:129", after := #[], guard := none }) (v := ?v3m2) rfl (by kernel_rfl) (by kernel_rfl) (by kernel_rfl) (fun _ _ _ h => h) (Or.inl ⟨by rfl, ?y3m2⟩) (by assumption) ?r3m2
          case y3m2 => (intro w hSw; (try dsimp only at hSw); go_simp; try with_reducible rfl)
          try simp only [Act.put, List.setIfInBounds_toArray, List.set_cons_zero, List.set_cons_succ]
          refine wpAnyH_take (i := 4) (oi := { dst := some 67, op := Op.indexAddr 22 (Operand.tmp 65) (Operand.tmp 66), type := 0, pos := "law05.go:129", after := #[{ on := 2, ground := Ground.data }, { on := 3, ground := Ground.data }], guard := none }) (v := ?v4m2) rfl (by kernel_rfl) (by kernel_rfl) (by kernel_rfl) (fun _ _ _ h => h) (Or.inl ⟨by rfl, ?y4m2⟩) (by assumption) ?r4m2
          case y4m2 => (intro w hSw; (try dsimp only at hSw); go_simp; try with_reducible rfl)
          try simp only [Act.put, List.setIfInBounds_toArray, List.set_cons_zero, List.set_cons_succ]
          refine wpAnyH_take (i := 5) (oi := { dst := some 68, op := Op.load 3 (Operand.tmp 67), type := 3, pos := "law05.go:129", after := #[{ on := 4, ground := Ground.data }], guard := none }) (v := ?v5m2) rfl (by kernel_rfl) (by kernel_rfl) (by kernel_rfl) (fun _ _ _ h => h) (Or.inl ⟨by rfl, ?y5m2⟩) (by assumption) ?r5m2
          case y5m2 => (intro w hSw; (try dsimp only at hSw); go_simp; try with_reducible rfl)
          try simp only [Act.put, List.setIfInBounds_toArray, List.set_cons_zero, List.set_cons_succ]
          refine wpAnyH_take (i := 6) (oi := { dst := some 69, op := Op.binOp BinOp.eql 3 (Operand.tmp 68) (Operand.const (Value.int IntKind.i64 3)) 3, type := 4, pos := "law05.go:129", after := #[{ on := 5, ground := Ground.data }], guard := none }) (v := ?v6m2) rfl (by kernel_rfl) (by kernel_rfl) (by kernel_rfl) (fun _ _ _ h => h) (Or.inl ⟨by rfl, ?y6m2⟩) (by assumption) ?r6m2
          case y6m2 => (intro w hSw; (try dsimp only at hSw); go_simp; try with_reducible rfl)
          try simp only [Act.put, List.setIfInBounds_toArray, List.set_cons_zero, List.set_cons_succ]
          refine wpAnyH_ready (rs := [7]) (by kernel_rfl) (by simp) ?_
          refine AllReadyH.cons (o := { dst := some 70, op := Op.call { callee := Callee.value (Operand.func 20), args := #[Operand.tmp 63, Operand.tmp 64, Operand.tmp 69], argTypes := #[25, 3, 4] }, type := 35, pos := "law05.go:129", after := #[{ on := 0, ground := Ground.data }, { on := 1, ground := Ground.data }, { on := 6, ground := Ground.data }], guard := none }) rfl (fun K hK => ?_) AllReadyH.nil
          go_simp
          go_at_call 20
          refine (unhide HCA _ _ ((unhide FY_3).pipe.below (Below.refl _ _).drew)).mono ?_
          rintro e w5 ⟨v1, v2, rfl, hq7, ha7, hb7⟩
          have hb5 : Below W4.heap.size W4 w5 := Below.next (Below.refl _ _).drew hb7 (Nat.le_refl _)
          obtain ⟨B5, eB5⟩ : ∃ X, W4.heap.size = X := ⟨_, rfl⟩
          have hq8 : NewPipe B5 w5 v1 ⟨cap5, items5, closed5, ss5, gs5⟩ := (by rw [← eB5]; exact hq7)
          have ha8 : NewAns B5 w5 v2 ⟨o0, o1, o2, o3, o4, wk⟩ := (by rw [← eB5]; exact ha7)
          have hB5p : w.heap.size < B5 := (by rw [← eB5]; exact size_of (unhide Kp_3))
          have hB5q : Q < B5 := (by rw [← eB5]; exact size_of (unhide Kq_3))
          have hB5a : A < B5 := (by rw [← eB5]; exact size_of (unhide Ka_3))
          have hB5f : F < B5 := (by rw [← eB5]; exact size_of (unhide Kf_3))
          have HMid := hide (Play.mid (unhide FY_3) hb5 hq8 ha8 (Nat.le_of_eq eB5) (show w.heap.size < B5 from hB5p))
          have HNP := hide hq8; have HNA := hide ha8
          obtain ⟨x5, y5, xs5, ys5, xg5, yg5, rfl, -, -, -⟩ := NewPipe.form' hq8
          obtain ⟨xw, yw, rfl, -⟩ := NewAns.form' ha8
          rw [unhide HNW] at HMid HNA ⊢
          have HX_c24 := hide (Below.next (unhide HX_3) hb5 (by first | exact Nat.le_refl _ | (have := unhide HBA; omega))); have Kp_c24 := hide (keep_below (unhide Kp_3) hb5); have Kq_c24 := hide (keep_below (unhide Kq_3) hb5); have Ka_c24 := hide (keep_below (unhide Ka_3) hb5); have Kf_c24 := hide (keep_below (unhide Kf_3) hb5); clear HX_3 Kp_3 Kq_3 Ka_3 Kf_3
          clear hb5 hb7 hq7 ha7 hq8 ha8 eB5 FY_3
          refine hK.out _ _ (unhide HSS _ (unhide HX_c24) (unhide Kp_c24)) (fun hHeld => ?_)
          clear hK K
          try simp only [Act.put, List.setIfInBounds_toArray, List.set_cons_zero, List.set_cons_succ]
          refine wpAnyH_take (i := 8) (oi := { dst := some 62, op := Op.move (Operand.tmp 70), type := 35, pos := "law05.go:129", after := #[{ on := 7, ground := Ground.data }], guard := none }) (v := ?v8m2) rfl (by kernel_rfl) (by kernel_rfl) (by kernel_rfl) (fun _ _ _ h => h) (Or.inl ⟨by rfl, ?y8m2⟩) (by assumption) ?r8m2
          case y8m2 => (intro w hSw; (try dsimp only at hSw); go_simp; try with_reducible rfl)
          try simp only [Act.put, List.setIfInBounds_toArray, List.set_cons_zero, List.set_cons_succ]
          refine wpAnyH_take (i := 9) (oi := { dst := some 71, op := Op.extract (Operand.tmp 62) 0, type := 25, pos := "law05.go:129", after := #[{ on := 8, ground := Ground.data }], guard := none }) (v := ?v9m2) rfl (by kernel_rfl) (by kernel_rfl) (by kernel_rfl) (fun _ _ _ h => h) (Or.inl ⟨by rfl, ?y9m2⟩) (by assumption) ?r9m2
          case y9m2 => (intro w hSw; (try dsimp only at hSw); go_simp; try with_reducible rfl)
          try simp only [Act.put, List.setIfInBounds_toArray, List.set_cons_zero, List.set_cons_succ]
          refine wpAnyH_take (i := 10) (oi := { dst := some 72, op := Op.extract (Operand.tmp 62) 1, type := 34, pos := "law05.go:129", after := #[{ on := 8, ground := Ground.data }, { on := 12, ground := Ground.gcOnly Departure.lateStores }], guard := none }) (v := ?v10m2) rfl (by kernel_rfl) (by kernel_rfl) (by kernel_rfl) (fun _ _ _ h => h) (Or.inl ⟨by rfl, ?y10m2⟩) (by assumption) ?r10m2
          case y10m2 => (intro w hSw; (try dsimp only at hSw); go_simp; try with_reducible rfl)
          try simp only [Act.put, List.setIfInBounds_toArray, List.set_cons_zero, List.set_cons_succ]
          refine wpAnyH_take (i := 11) (oi := { dst := some 73, op := Op.extract (Operand.tmp 62) 2, type := 30, pos := "law05.go:129", after := #[{ on := 8, ground := Ground.data }, { on := 13, ground := Ground.gcOnly Departure.lateStores }], guard := none }) (v := ?v11m2) rfl (by kernel_rfl) (by kernel_rfl) (by kernel_rfl) (fun _ _ _ h => h) (Or.inl ⟨by rfl, ?y11m2⟩) (by assumption) ?r11m2
          case y11m2 => (intro w hSw; (try dsimp only at hSw); go_simp; try with_reducible rfl)
          try simp only [Act.put, List.setIfInBounds_toArray, List.set_cons_zero, List.set_cons_succ]
          refine wpAnyH_ready (rs := [12]) (by kernel_rfl) (by simp) ?_
          refine AllReadyH.cons (o := { dst := none, op := Op.store 25 (Operand.tmp 10) (Operand.tmp 71), type := 0, pos := "law05.go:129", after := #[{ on := 9, ground := Ground.data }, { on := 7, ground := Ground.chain }, { on := 0, ground := Ground.phase }, { on := 1, ground := Ground.phase }, { on := 2, ground := Ground.phase }, { on := 3, ground := Ground.phase }, { on := 4, ground := Ground.phase }, { on := 5, ground := Ground.phase }, { on := 6, ground := Ground.phase }, { on := 7, ground := Ground.phase }, { on := 8, ground := Ground.phase }, { on := 9, ground := Ground.phase }, { on := 10, ground := Ground.textOnly Departure.lateStores }, { on := 11, ground := Ground.textOnly Departure.lateStores }], guard := none }) rfl (fun K hK => ?_) AllReadyH.nil
          obtain ⟨⟨qz0, qz1, qz2, qz3, qz4⟩, ⟨qzf0, qzf1, qzf2, qzf3, qzf4⟩, qzl⟩ := block5 (unhide Kq_c24)
          go_simp
          clear qz0 qz1 qz2 qz3 qz4 qzf0 qzf1 qzf2 qzf3 qzf4 qzl
          refine hK.out _ _ (unhide HSS _ (put5_below (y0 := .int .i64 cap5) (y1 := .slice x5 items5.length y5) (y2 := .bool closed5) (y3 := .slice xs5 ss5.length ys5) (y4 := .slice xg5 gs5.length yg5) (unhide HX_c24) (show w.heap.size ≤ Q by omega)) ((put5_keep (y0 := .int .i64 cap5) (y1 := .slice x5 items5.length y5) (y2 := .bool closed5) (y3 := .slice xs5 ss5.length ys5) (y4 := .slice xg5 gs5.length yg5) (show w.heap.size ≠ Q by omega)).trans (unhide Kp_c24))) (fun hHeld => ?_)
          clear hK K
          try simp only [Act.put, List.setIfInBounds_toArray, List.set_cons_zero, List.set_cons_succ]
          have HX_c25 := hide (put5_below (y0 := .int .i64 cap5) (y1 := .slice x5 items5.length y5) (y2 := .bool closed5) (y3 := .slice xs5 ss5.length ys5) (y4 := .slice xg5 gs5.length yg5) (unhide HX_c24) (show w.heap.size ≤ Q by omega))
          have Kp_c25 := hide ((put5_keep (y0 := .int .i64 cap5) (y1 := .slice x5 items5.length y5) (y2 := .bool closed5) (y3 := .slice xs5 ss5.length ys5) (y4 := .slice xg5 gs5.length yg5) (show w.heap.size ≠ Q by omega)).trans (unhide Kp_c24))
          have Kq_c25 := hide (put5_new (y0 := .int .i64 cap5) (y1 := .slice x5 items5.length y5) (y2 := .bool closed5) (y3 := .slice xs5 ss5.length ys5) (y4 := .slice xg5 gs5.length yg5) (unhide Kq_c24))
          have Ka_c25 := hide ((put5_keep (y0 := .int .i64 cap5) (y1 := .slice x5 items5.length y5) (y2 := .bool closed5) (y3 := .slice xs5 ss5.length ys5) (y4 := .slice xg5 gs5.length yg5) (show A ≠ Q by omega)).trans (unhide Ka_c24))
          have Kf_c25 := hide ((put5_keep (y0 := .int .i64 cap5) (y1 := .slice x5 items5.length y5) (y2 := .bool closed5) (y3 := .slice xs5 ss5.length ys5) (y4 := .slice xg5 gs5.length yg5) (show F ≠ Q by omega)).trans (unhide Kf_c24))
          have mv_c25 := Mid.var (unhide HMid) (unhide HNP) (unhide HNA) (show Q < B5 by omega) (show w.heap.size ≤ Q by omega) (unhide Kq_c24) (fun _ _ h => by cases h) (grown_put5 w5 Q (.int .i64 cap5) (.slice x5 items5.length y5) (.bool closed5) (.slice xs5 ss5.length ys5) (.slice xg5 gs5.length yg5))
          have FM_c25 := hide mv_c25.1
          have FNP_c25 := hide mv_c25.2.1
          have FNA_c25 := hide mv_c25.2.2
          clear mv_c25
          obtain ⟨W6, eW6⟩ : ∃ X, put5 w5 Q (.int .i64 cap5) (.slice x5 items5.length y5) (.bool closed5) (.slice xs5 ss5.length ys5) (.slice xg5 gs5.length yg5) = X := ⟨_, rfl⟩
          rw [eW6] at HX_c25 Kp_c25 Kq_c25 Ka_c25 Kf_c25 FM_c25 FNP_c25 FNA_c25
          have gW6 : (((((w5).setCell ⟨Q, 0, none⟩ (.int .i64 cap5)).setCell ⟨Q, 1, none⟩ (.slice x5 items5.length y5)).setCell ⟨Q, 2, none⟩ (.bool closed5)).setCell ⟨Q, 3, none⟩ (.slice xs5 ss5.length ys5)).setCell ⟨Q, 4, none⟩ (.slice xg5 gs5.length yg5) = W6 := eW6
          rw [gW6]
          clear eW6 gW6 HX_c24 Kp_c24 Kq_c24 Ka_c24 Kf_c24 HMid HNP HNA
          refine wpAnyH_ready (rs := [13]) (by kernel_rfl) (by simp) ?_
          refine AllReadyH.cons (o := { dst := none, op := Op.store 34 (Operand.tmp 11) (Operand.tmp 72), type := 0, pos := "law05.go:129", after := #[{ on := 10, ground := Ground.data }, { on := 12, ground := Ground.chain }, { on := 0, ground := Ground.phase }, { on := 1, ground := Ground.phase }, { on := 2, ground := Ground.phase }, { on := 3, ground := Ground.phase }, { on := 4, ground := Ground.phase }, { on := 5, ground := Ground.phase }, { on := 6, ground := Ground.phase }, { on := 7, ground := Ground.phase }, { on := 8, ground := Ground.phase }, { on := 9, ground := Ground.phase }, { on := 10, ground := Ground.phase }, { on := 11, ground := Ground.textOnly Departure.lateStores }, { on := 12, ground := Ground.phase }], guard := none }) rfl (fun K hK => ?_) AllReadyH.nil
          obtain ⟨⟨az0, az1, az2, az3, az4, az5⟩, ⟨azf0, azf1, azf2, azf3, azf4, azf5⟩, azl⟩ := block6 (unhide Ka_c25)
          go_simp
          clear az0 az1 az2 az3 az4 az5 azf0 azf1 azf2 azf3 azf4 azf5 azl
          refine hK.out _ _ (unhide HSS _ (put6_below (y0 := .bool o0) (y1 := .bool o1) (y2 := .bool o2) (y3 := .int .i64 o3) (y4 := .int .i64 o4) (y5 := .slice xw nw yw) (unhide HX_c25) (show w.heap.size ≤ A by omega)) ((put6_keep (y0 := .bool o0) (y1 := .bool o1) (y2 := .bool o2) (y3 := .int .i64 o3) (y4 := .int .i64 o4) (y5 := .slice xw nw yw) (show w.heap.size ≠ A by omega)).trans (unhide Kp_c25))) (fun hHeld => ?_)
          clear hK K
          try simp only [Act.put, List.setIfInBounds_toArray, List.set_cons_zero, List.set_cons_succ]
          have HX_c26 := hide (put6_below (y0 := .bool o0) (y1 := .bool o1) (y2 := .bool o2) (y3 := .int .i64 o3) (y4 := .int .i64 o4) (y5 := .slice xw nw yw) (unhide HX_c25) (show w.heap.size ≤ A by omega))
          have Kp_c26 := hide ((put6_keep (y0 := .bool o0) (y1 := .bool o1) (y2 := .bool o2) (y3 := .int .i64 o3) (y4 := .int .i64 o4) (y5 := .slice xw nw yw) (show w.heap.size ≠ A by omega)).trans (unhide Kp_c25))
          have Kq_c26 := hide ((put6_keep (y0 := .bool o0) (y1 := .bool o1) (y2 := .bool o2) (y3 := .int .i64 o3) (y4 := .int .i64 o4) (y5 := .slice xw nw yw) (show Q ≠ A by omega)).trans (unhide Kq_c25))
          have Ka_c26 := hide (put6_new (y0 := .bool o0) (y1 := .bool o1) (y2 := .bool o2) (y3 := .int .i64 o3) (y4 := .int .i64 o4) (y5 := .slice xw nw yw) (unhide Ka_c25))
          have Kf_c26 := hide ((put6_keep (y0 := .bool o0) (y1 := .bool o1) (y2 := .bool o2) (y3 := .int .i64 o3) (y4 := .int .i64 o4) (y5 := .slice xw nw yw) (show F ≠ A by omega)).trans (unhide Kf_c25))
          have mv_c26 := Mid.var (unhide FM_c25) (unhide FNP_c25) (unhide FNA_c25) (show A < B5 by omega) (show w.heap.size ≤ A by omega) (unhide Ka_c25) (fun _ _ h => by cases h) (grown_put6 W6 A (.bool o0) (.bool o1) (.bool o2) (.int .i64 o3) (.int .i64 o4) (.slice xw nw yw))
          have FM_c26 := hide mv_c26.1
          have FNP_c26 := hide mv_c26.2.1
          have FNA_c26 := hide mv_c26.2.2
          clear mv_c26
          obtain ⟨W7, eW7⟩ : ∃ X, put6 W6 A (.bool o0) (.bool o1) (.bool o2) (.int .i64 o3) (.int .i64 o4) (.slice xw nw yw) = X := ⟨_, rfl⟩
          rw [eW7] at HX_c26 Kp_c26 Kq_c26 Ka_c26 Kf_c26 FM_c26 FNP_c26 FNA_c26
          have gW7 : ((((((W6).setCell ⟨A, 0, none⟩ (.bool o0)).setCell ⟨A, 1, none⟩ (.bool o1)).setCell ⟨A, 2, none⟩ (.bool o2)).setCell ⟨A, 3, none⟩ (.int .i64 o3)).setCell ⟨A, 4, none⟩ (.int .i64 o4)).setCell ⟨A, 5, none⟩ (.slice xw nw yw) = W7 := eW7
          rw [gW7]
          clear eW7 gW7 HX_c25 Kp_c25 Kq_c25 Ka_c25 Kf_c25 FM_c25 FNP_c25 FNA_c25
          refine wpAnyH_ready (rs := [14]) (by kernel_rfl) (by simp) ?_
          refine AllReadyH.cons (o := { dst := none, op := Op.store 30 (Operand.tmp 12) (Operand.tmp 73), type := 0, pos := "law05.go:129", after := #[{ on := 11, ground := Ground.data }, { on := 13, ground := Ground.chain }, { on := 0, ground := Ground.phase }, { on := 1, ground := Ground.phase }, { on := 2, ground := Ground.phase }, { on := 3, ground := Ground.phase }, { on := 4, ground := Ground.phase }, { on := 5, ground := Ground.phase }, { on := 6, ground := Ground.phase }, { on := 7, ground := Ground.phase }, { on := 8, ground := Ground.phase }, { on := 9, ground := Ground.phase }, { on := 10, ground := Ground.phase }, { on := 11, ground := Ground.phase }, { on := 12, ground := Ground.phase }, { on := 13, ground := Ground.phase }], guard := none }) rfl (fun K hK => ?_) AllReadyH.nil
          obtain ⟨fz0, fz1, fzf0, fzf1, fzl⟩ := block2 (unhide Kf_c26)
          go_simp
          clear fz0 fz1 fzf0 fzf1 fzl
          refine hK.out _ _ (unhide HSS _ (put2_below (y0 := .int .i64 0) (y1 := .int .i64 0) (unhide HX_c26) (show w.heap.size ≤ F by omega)) ((put2_keep (y0 := .int .i64 0) (y1 := .int .i64 0) (show w.heap.size ≠ F by omega)).trans (unhide Kp_c26))) (fun hHeld => ?_)
          clear hK K
          try simp only [Act.put, List.setIfInBounds_toArray, List.set_cons_zero, List.set_cons_succ]
          have HX_c27 := hide (put2_below (y0 := .int .i64 0) (y1 := .int .i64 0) (unhide HX_c26) (show w.heap.size ≤ F by omega))
          have Kp_c27 := hide ((put2_keep (y0 := .int .i64 0) (y1 := .int .i64 0) (show w.heap.size ≠ F by omega)).trans (unhide Kp_c26))
          have Kq_c27 := hide ((put2_keep (y0 := .int .i64 0) (y1 := .int .i64 0) (show Q ≠ F by omega)).trans (unhide Kq_c26))
          have Ka_c27 := hide ((put2_keep (y0 := .int .i64 0) (y1 := .int .i64 0) (show A ≠ F by omega)).trans (unhide Ka_c26))
          have Kf_c27 := hide (put2_new (y0 := .int .i64 0) (y1 := .int .i64 0) (unhide Kf_c26))
          have mv_c27 := Mid.var (unhide FM_c26) (unhide FNP_c26) (unhide FNA_c26) (show F < B5 by omega) (show w.heap.size ≤ F by omega) (unhide Kf_c26) (fun _ _ h => by cases h) (grown_put2 W7 F (.int .i64 0) (.int .i64 0))
          have FM_c27 := hide mv_c27.1
          have FNP_c27 := hide mv_c27.2.1
          have FNA_c27 := hide mv_c27.2.2
          clear mv_c27
          obtain ⟨W8, eW8⟩ : ∃ X, put2 W7 F (.int .i64 0) (.int .i64 0) = X := ⟨_, rfl⟩
          rw [eW8] at HX_c27 Kp_c27 Kq_c27 Ka_c27 Kf_c27 FM_c27 FNP_c27 FNA_c27
          have gW8 : ((W7).setCell ⟨F, 0, none⟩ (.int .i64 0)).setCell ⟨F, 1, none⟩ (.int .i64 0) = W8 := eW8
          rw [gW8]
          clear eW8 gW8 HX_c26 Kp_c26 Kq_c26 Ka_c26 Kf_c26 FM_c26 FNP_c26 FNA_c26
          refine wpAnyH_done (by kernel_rfl) ?_ _
          cases o0 with
          | false =>
            obtain ⟨⟨az0, az1, az2, az3, az4, az5⟩, ⟨azf0, azf1, azf2, azf3, azf4, azf5⟩, azl⟩ := block6 (unhide Ka_c27)
            go_wp2_with fail
            go_meet
            case rel => exact ⟨ls, lg, sent, got, as_, ag, cs, cg, cap5, items5, closed5, ss5, gs5, false, o1, o2, o3, o4, wk, x5, xs5, xg5, xw, y5, ys5, yg5, nw, yw, rfl, rfl, unhide HLS, unhide HLG, unhide HNW, unhide HWL, unhide Kp_c27, unhide Kq_c27, unhide Ka_c27, unhide Kf_c27, unhide FM_c27, (by have h9 := unhide HINV; rw [sentM_yes (by decide)]; simpa [gotA] using h9), fun _ => unhide HWK⟩
          | true =>
            cases o2 with
            | false =>
              obtain ⟨⟨az0, az1, az2, az3, az4, az5⟩, ⟨azf0, azf1, azf2, azf3, azf4, azf5⟩, azl⟩ := block6 (unhide Ka_c27)
              go_wp2_with fail
              go_meet
              case rel => exact ⟨ls, lg, sent, got, as_, ag, cs, cg, cap5, items5, closed5, ss5, gs5, true, o1, false, o3, o4, wk, x5, xs5, xg5, xw, y5, ys5, yg5, nw, yw, rfl, rfl, unhide HLS, unhide HLG, unhide HNW, unhide HWL, unhide Kp_c27, unhide Kq_c27, unhide Ka_c27, unhide Kf_c27, unhide FM_c27, (by have h9 := unhide HINV; rw [sentM_yes (by decide)]; simpa [gotA] using h9), fun _ => unhide HWK⟩
            | true =>
              have HLgq := HLG; have HL1q : Hid (lg ≤ 301) := (by have h9 := (unhide HINV).len; have h8 := congrArg List.length (unhide HINV).eq; simp only [List.length_append] at h9 h8; show lg ≤ 301; rw [unhide HLG]; omega)
              obtain ⟨⟨az0, az1, az2, az3, az4, az5⟩, ⟨azf0, azf1, azf2, azf3, azf4, azf5⟩, azl⟩ := block6 (unhide Ka_c27)
              go_wp2_with (at_builtin; refine wpList_append2 ki rfl (.tmp 80) (.tmp 83) rfl w.heap.size _ got rfl ((unhide FM_c27).og.below ((Below.refl _ _).alloc (Nat.le_refl _) (.cells #[.int .i64 o3] 3))) _ [o3] rfl (isl_one ki W8 (o3)) (lg + 1) (by rw [← unhide HLgq]; rfl) (by show (lg + 1) * 8 ≤ 140737488355328; have hz1 := unhide HL1q; omega) (Nat.le_trans (unhide FM_c27).sz (by simp only [World.size_alloc]; exact Nat.le_succ _)) ?_; intro bq dq W9 ho6 hg6 hl6; have FM_c28 := hide (Mid.gets ((unhide FM_c27).below ((Below.refl _ _).alloc (Nat.le_refl _) (.cells #[.int .i64 o3] 3))) ho6 hg6 hl6); have HX_c28 := hide (unhide FM_c28).bel; have Kp_c28 := hide (keep_grown (keep_alloc (unhide Kp_c27) (.cells #[.int .i64 o3] 3)) hg6 (fun j' hj' => Own.ne ((unhide FM_c27).og.below ((Below.refl _ _).alloc (Nat.le_refl _) (.cells #[.int .i64 o3] 3))) (keep_alloc (unhide Kp_c27) (.cells #[.int .i64 o3] 3)) (by decide) j' hj')); have Kq_c28 := hide (keep_grown (keep_alloc (unhide Kq_c27) (.cells #[.int .i64 o3] 3)) hg6 (fun j' hj' => Own.ne ((unhide FM_c27).og.below ((Below.refl _ _).alloc (Nat.le_refl _) (.cells #[.int .i64 o3] 3))) (keep_alloc (unhide Kq_c27) (.cells #[.int .i64 o3] 3)) (by decide) j' hj')); have Ka_c28 := hide (keep_grown (keep_alloc (unhide Ka_c27) (.cells #[.int .i64 o3] 3)) hg6 (fun j' hj' => Own.ne ((unhide FM_c27).og.below ((Below.refl _ _).alloc (Nat.le_refl _) (.cells #[.int .i64 o3] 3))) (keep_alloc (unhide Ka_c27) (.cells #[.int .i64 o3] 3)) (by decide) j' hj')); have Kf_c28 := hide (keep_grown (keep_alloc (unhide Kf_c27) (.cells #[.int .i64 o3] 3)) hg6 (fun j' hj' => Own.ne ((unhide FM_c27).og.below ((Below.refl _ _).alloc (Nat.le_refl _) (.cells #[.int .i64 o3] 3))) (keep_alloc (unhide Kf_c27) (.cells #[.int .i64 o3] 3)) (by decide) j' hj')); clear ho6 hg6 hl6 HX_c27 FM_c27 Kp_c27 Kq_c27 Ka_c27 Kf_c27)
              go_meet
              case rel => exact ⟨ls, (lg + 1), sent, (got ++ [o3]), as_, bq, cs, dq, cap5, items5, closed5, ss5, gs5, true, o1, true, o3, o4, wk, x5, xs5, xg5, xw, y5, ys5, yg5, nw, yw, rfl, rfl, unhide HLS, (by rw [List.length_append, ← unhide HLG]; rfl), unhide HNW, unhide HWL, unhide Kp_c28, unhide Kq_c28, unhide Ka_c28, unhide Kf_c28, unhide FM_c28, (by have h9 := unhide HINV; rw [sentM_yes (by decide)]; simpa [gotA] using h9), fun _ => unhide HWK⟩
        · go_upto_region 17 with fail
          clear km
          have hz0 := inv_task (unhide FY_3).inv hj3
          have hinv := inv_get (t := true) (unhide FY_3).inv hj3
          have HCA : Hid (∀ W v', IsPipe W v' ⟨pcap, items, closed, ss, gs⟩ → Calls Try.prog 20 #[v', .int .i64 ((j : Int) + 1), .bool true] W fun e w' => ∃ v1 v2, e = .returned (.tuple #[v1, v2, .agg #[.int .i64 0, .int .i64 0]]) ∧ NewPipe W.heap.size w' v1 (getL ⟨pcap, items, closed, ss, gs⟩ ((j : Int) + 1, 0, 0) true).1 ∧ NewAns W.heap.size w' v2 (getL ⟨pcap, items, closed, ss, gs⟩ ((j : Int) + 1, 0, 0) true).2 ∧ Below W.heap.size W w') := fun W v' hW => (by have h9 := Get_any W v' ⟨pcap, items, closed, ss, gs⟩ ((j : Int) + 1) true hW (unhide HSHP); unfold getR at h9; rw [hz0] at h9; exact h9)
          have hwl : (getL ⟨pcap, items, closed, ss, gs⟩ ((j : Int) + 1, 0, 0) true).2.wakes.length ≤ 6000 := (by have h9 := (getR_short (P := ⟨pcap, items, closed, ss, gs⟩) (x := (j : Int) + 1) (try_ := true) (unhide HCN)).2; unfold getR at h9; rw [hz0, if_pos rfl] at h9; omega)
          have hwk := get_wakes (t := true) (unhide FY_3).inv
          obtain ⟨⟨⟨cap5, items5, closed5, ss5, gs5⟩, ⟨o0, o1, o2, o3, o4, wk⟩⟩, hR⟩ : ∃ X, getL ⟨pcap, items, closed, ss, gs⟩ ((j : Int) + 1, 0, 0) true = X := ⟨_, rfl⟩
          rw [hR] at hinv HCA hwl hwk
          simp only at hinv HCA hwl hwk
          have HINV := hide hinv; have HGD : Hid (pipeF ⟨cap5, items5, closed5, ss5, gs5⟩ = (0, 0)) := (good_iff _).2 hinv.good; have HSH : Hid (Short ⟨cap5, items5, closed5, ss5, gs5⟩) := short_of (Nat.le_trans hinv.good.cnt (by decide))
          obtain ⟨nw, enw⟩ : ∃ k, wk.length = k := ⟨_, rfl⟩
          have HNW := hide enw
          have HWL : Hid (nw ≤ 6000) := (by rw [← enw]; exact hwl)
          have HWK := hide hwk
          clear hwk
          clear hz0 hinv hwl hR enw
          have HSS : Hid (∀ W, Below w.heap.size w W → W.heap[w.heap.size]? = some (.cells #[.int .i64 pcap, .slice a1 n1 c1, .bool closed, .slice a2 n2 c2, .slice a3 n3 c3] 25) → (W.cell? ⟨w.heap.size, 0, none⟩ = some (.int .i64 pcap) ∧ W.cell? ⟨w.heap.size, 1, none⟩ = some (.slice a1 n1 c1) ∧ W.cell? ⟨w.heap.size, 2, none⟩ = some (.bool closed) ∧ W.cell? ⟨w.heap.size, 3, none⟩ = some (.slice a2 n2 c2) ∧ W.cell? ⟨w.heap.size, 4, none⟩ = some (.slice a3 n3 c3)) ∧ W.cell? ⟨bm, om + j, none⟩ = some (.int .i64 3)) := fun W hW hk => ⟨(block5 hk).1, unhide HMC W hW⟩
          refine wp_region_held_drew (S := fun W => (W.cell? ⟨w.heap.size, 0, none⟩ = some (.int .i64 pcap) ∧ W.cell? ⟨w.heap.size, 1, none⟩ = some (.slice a1 n1 c1) ∧ W.cell? ⟨w.heap.size, 2, none⟩ = some (.bool closed) ∧ W.cell? ⟨w.heap.size, 3, none⟩ = some (.slice a2 n2 c2) ∧ W.cell? ⟨w.heap.size, 4, none⟩ = some (.slice a3 n3 c3)) ∧ W.cell? ⟨bm, om + j, none⟩ = some (.int .i64 3)) (by kernel_rfl) (unhide HSS _ (unhide HX_3).drew (unhide Kp_3)) (fun hHeld => ?_)
          refine wpAnyH_take (i := 0) (oi := { dst := some 63, op := Op.load 25 (Operand.tmp 6), type := 25, pos := "law05.go:129", after := #[], guard := none }) (v := ?v0m3) rfl (by kernel_rfl) (by kernel_rfl) (by kernel_rfl) (fun _ _ _ h => h) (Or.inl ⟨by rfl, ?y0m3⟩) (by assumption) ?r0m3
          case y0m3 => (intro w hSw; (try dsimp only at hSw); go_simp; try with_reducible rfl)
          try simp only [Act.put, List.setIfInBounds_toArray, List.set_cons_zero, List.set_cons_succ]
          refine wpAnyH_take (i := 1) (oi := { dst := some 64, op := Op.move (Operand.tmp 9), type := 3, pos := "law05.go:129", after := #[], guard := none }) (v := ?v1m3) rfl (by kernel_rfl) (by kernel_rfl) (by kernel_rfl) (fun _ _ _ h => h) (Or.inl ⟨by rfl, ?y1m3⟩) (by assumption) ?r1m3
          case y1m3 => (intro w hSw; (try dsimp only at hSw); go_simp; try with_reducible rfl)
          try simp only [Act.put, List.setIfInBounds_toArray, List.set_cons_zero, List.set_cons_succ]
          refine wpAnyH_take (i := 2) (oi := { dst := some 65, op := Op.move (Operand.tmp 1), type := 22, pos := "law05.go:129", after := #[], guard := none }) (v := ?v2m3) rfl (by kernel_rfl) (by kernel_rfl) (by kernel_rfl) (fun _ _ _ h => h) (Or.inl ⟨by rfl, ?y2m3⟩) (by assumption) ?r2m3
          case y2m3 => (intro w hSw; (try dsimp only at hSw); go_simp; try with_reducible rfl)
          try simp only [Act.put, List.setIfInBounds_toArray, List.set_cons_zero, List.set_cons_succ]
          refine wpAnyH_take (i := 3) (oi := { dst := some 66, op := Op.move (Operand.tmp 8), type := 3, pos := "law05.go:129", after := #[], guard := none }) (v := ?v3m3) rfl (by kernel_rfl) (by kernel_rfl) (by kernel_rfl) (fun _ _ _ h => h) (Or.inl ⟨by rfl, ?y3m3⟩) (by assumption) ?r3m3
          case y3m3 => (intro w hSw; (try dsimp only at hSw); go_simp; try with_reducible rfl)
          try simp only [Act.put, List.setIfInBounds_toArray, List.set_cons_zero, List.set_cons_succ]
          refine wpAnyH_take (i := 4) (oi := { dst := some 67, op := Op.indexAddr 22 (Operand.tmp 65) (Operand.tmp 66), type := 0, pos := "law05.go:129", after := #[{ on := 2, ground := Ground.data }, { on := 3, ground := Ground.data }], guard := none }) (v := ?v4m3) rfl (by kernel_rfl) (by kernel_rfl) (by kernel_rfl) (fun _ _ _ h => h) (Or.inl ⟨by rfl, ?y4m3⟩) (by assumption) ?r4m3
          case y4m3 => (intro w hSw; (try dsimp only at hSw); go_simp; try with_reducible rfl)
          try simp only [Act.put, List.setIfInBounds_toArray, List.set_cons_zero, List.set_cons_succ]
          refine wpAnyH_take (i := 5) (oi := { dst := some 68, op := Op.load 3 (Operand.tmp 67), type := 3, pos := "law05.go:129", after := #[{ on := 4, ground := Ground.data }], guard := none }) (v := ?v5m3) rfl (by kernel_rfl) (by kernel_rfl) (by kernel_rfl) (fun _ _ _ h => h) (Or.inl ⟨by rfl, ?y5m3⟩) (by assumption) ?r5m3
          case y5m3 => (intro w hSw; (try dsimp only at hSw); go_simp; try with_reducible rfl)
          try simp only [Act.put, List.setIfInBounds_toArray, List.set_cons_zero, List.set_cons_succ]
          refine wpAnyH_take (i := 6) (oi := { dst := some 69, op := Op.binOp BinOp.eql 3 (Operand.tmp 68) (Operand.const (Value.int IntKind.i64 3)) 3, type := 4, pos := "law05.go:129", after := #[{ on := 5, ground := Ground.data }], guard := none }) (v := ?v6m3) rfl (by kernel_rfl) (by kernel_rfl) (by kernel_rfl) (fun _ _ _ h => h) (Or.inl ⟨by rfl, ?y6m3⟩) (by assumption) ?r6m3
          case y6m3 => (intro w hSw; (try dsimp only at hSw); go_simp; try with_reducible rfl)
          try simp only [Act.put, List.setIfInBounds_toArray, List.set_cons_zero, List.set_cons_succ]
          refine wpAnyH_ready (rs := [7]) (by kernel_rfl) (by simp) ?_
          refine AllReadyH.cons (o := { dst := some 70, op := Op.call { callee := Callee.value (Operand.func 20), args := #[Operand.tmp 63, Operand.tmp 64, Operand.tmp 69], argTypes := #[25, 3, 4] }, type := 35, pos := "law05.go:129", after := #[{ on := 0, ground := Ground.data }, { on := 1, ground := Ground.data }, { on := 6, ground := Ground.data }], guard := none }) rfl (fun K hK => ?_) AllReadyH.nil
          go_simp
          go_at_call 20
          refine (unhide HCA _ _ ((unhide FY_3).pipe.below (Below.refl _ _).drew)).mono ?_
          rintro e w5 ⟨v1, v2, rfl, hq7, ha7, hb7⟩
          have hb5 : Below W4.heap.size W4 w5 := Below.next (Below.refl _ _).drew hb7 (Nat.le_refl _)
          obtain ⟨B5, eB5⟩ : ∃ X, W4.heap.size = X := ⟨_, rfl⟩
          have hq8 : NewPipe B5 w5 v1 ⟨cap5, items5, closed5, ss5, gs5⟩ := (by rw [← eB5]; exact hq7)
          have ha8 : NewAns B5 w5 v2 ⟨o0, o1, o2, o3, o4, wk⟩ := (by rw [← eB5]; exact ha7)
          have hB5p : w.heap.size < B5 := (by rw [← eB5]; exact size_of (unhide Kp_3))
          have hB5q : Q < B5 := (by rw [← eB5]; exact size_of (unhide Kq_3))
          have hB5a : A < B5 := (by rw [← eB5]; exact size_of (unhide Ka_3))
          have hB5f : F < B5 := (by rw [← eB5]; exact size_of (unhide Kf_3))
          have HMid := hide (Play.mid (unhide FY_3) hb5 hq8 ha8 (Nat.le_of_eq eB5) (show w.heap.size < B5 from hB5p))
          have HNP := hide hq8; have HNA := hide ha8
          obtain ⟨x5, y5, xs5, ys5, xg5, yg5, rfl, -, -, -⟩ := NewPipe.form' hq8
          obtain ⟨xw, yw, rfl, -⟩ := NewAns.form' ha8
          rw [unhide HNW] at HMid HNA ⊢
          have HX_c34 := hide (Below.next (unhide HX_3) hb5 (by first | exact Nat.le_refl _ | (have := unhide HBA; omega))); have Kp_c34 := hide (keep_below (unhide Kp_3) hb5); have Kq_c34 := hide (keep_below (unhide Kq_3) hb5); have Ka_c34 := hide (keep_below (unhide Ka_3) hb5); have Kf_c34 := hide (keep_below (unhide Kf_3) hb5); clear HX_3 Kp_3 Kq_3 Ka_3 Kf_3
          clear hb5 hb7 hq7 ha7 hq8 ha8 eB5 FY_3
          refine hK.out _ _ (unhide HSS _ (unhide HX_c34) (unhide Kp_c34)) (fun hHeld => ?_)
          clear hK K
          try simp only [Act.put, List.setIfInBounds_toArray, List.set_cons_zero, List.set_cons_succ]
          refine wpAnyH_take (i := 8) (oi := { dst := some 62, op := Op.move (Operand.tmp 70), type := 35, pos := "law05.go:129", after := #[{ on := 7, ground := Ground.data }], guard := none }) (v := ?v8m3) rfl (by kernel_rfl) (by kernel_rfl) (by kernel_rfl) (fun _ _ _ h => h) (Or.inl ⟨by rfl, ?y8m3⟩) (by assumption) ?r8m3
          case y8m3 => (intro w hSw; (try dsimp only at hSw); go_simp; try with_reducible rfl)
          try simp only [Act.put, List.setIfInBounds_toArray, List.set_cons_zero, List.set_cons_succ]
          refine wpAnyH_take (i := 9) (oi := { dst := some 71, op := Op.extract (Operand.tmp 62) 0, type := 25, pos := "law05.go:129", after := #[{ on := 8, ground := Ground.data }], guard := none }) (v := ?v9m3) rfl (by kernel_rfl) (by kernel_rfl) (by kernel_rfl) (fun _ _ _ h => h) (Or.inl ⟨by rfl, ?y9m3⟩) (by assumption) ?r9m3
          case y9m3 => (intro w hSw; (try dsimp only at hSw); go_simp; try with_reducible rfl)
          try simp only [Act.put, List.setIfInBounds_toArray, List.set_cons_zero, List.set_cons_succ]
          refine wpAnyH_take (i := 10) (oi := { dst := some 72, op := Op.extract (Operand.tmp 62) 1, type := 34, pos := "law05.go:129", after := #[{ on := 8, ground := Ground.data }, { on := 12, ground := Ground.gcOnly Departure.lateStores }], guard := none }) (v := ?v10m3) rfl (by kernel_rfl) (by kernel_rfl) (by kernel_rfl) (fun _ _ _ h => h) (Or.inl ⟨by rfl, ?y10m3⟩) (by assumption) ?r10m3
          case y10m3 => (intro w hSw; (try dsimp only at hSw); go_simp; try with_reducible rfl)
          try simp only [Act.put, List.setIfInBounds_toArray, List.set_cons_zero, List.set_cons_succ]
          refine wpAnyH_take (i := 11) (oi := { dst := some 73, op := Op.extract (Operand.tmp 62) 2, type := 30, pos := "law05.go:129", after := #[{ on := 8, ground := Ground.data }, { on := 13, ground := Ground.gcOnly Departure.lateStores }], guard := none }) (v := ?v11m3) rfl (by kernel_rfl) (by kernel_rfl) (by kernel_rfl) (fun _ _ _ h => h) (Or.inl ⟨by rfl, ?y11m3⟩) (by assumption) ?r11m3
          case y11m3 => (intro w hSw; (try dsimp only at hSw); go_simp; try with_reducible rfl)
          try simp only [Act.put, List.setIfInBounds_toArray, List.set_cons_zero, List.set_cons_succ]
          refine wpAnyH_ready (rs := [12]) (by kernel_rfl) (by simp) ?_
          refine AllReadyH.cons (o := { dst := none, op := Op.store 25 (Operand.tmp 10) (Operand.tmp 71), type := 0, pos := "law05.go:129", after := #[{ on := 9, ground := Ground.data }, { on := 7, ground := Ground.chain }, { on := 0, ground := Ground.phase }, { on := 1, ground := Ground.phase }, { on := 2, ground := Ground.phase }, { on := 3, ground := Ground.phase }, { on := 4, ground := Ground.phase }, { on := 5, ground := Ground.phase }, { on := 6, ground := Ground.phase }, { on := 7, ground := Ground.phase }, { on := 8, ground := Ground.phase }, { on := 9, ground := Ground.phase }, { on := 10, ground := Ground.textOnly Departure.lateStores }, { on := 11, ground := Ground.textOnly Departure.lateStores }], guard := none }) rfl (fun K hK => ?_) AllReadyH.nil
          obtain ⟨⟨qz0, qz1, qz2, qz3, qz4⟩, ⟨qzf0, qzf1, qzf2, qzf3, qzf4⟩, qzl⟩ := block5 (unhide Kq_c34)
          go_simp
          clear qz0 qz1 qz2 qz3 qz4 qzf0 qzf1 qzf2 qzf3 qzf4 qzl
          refine hK.out _ _ (unhide HSS _ (put5_below (y0 := .int .i64 cap5) (y1 := .slice x5 items5.length y5) (y2 := .bool closed5) (y3 := .slice xs5 ss5.length ys5) (y4 := .slice xg5 gs5.length yg5) (unhide HX_c34) (show w.heap.size ≤ Q by omega)) ((put5_keep (y0 := .int .i64 cap5) (y1 := .slice x5 items5.length y5) (y2 := .bool closed5) (y3 := .slice xs5 ss5.length ys5) (y4 := .slice xg5 gs5.length yg5) (show w.heap.size ≠ Q by omega)).trans (unhide Kp_c34))) (fun hHeld => ?_)
          clear hK K
          try simp only [Act.put, List.setIfInBounds_toArray, List.set_cons_zero, List.set_cons_succ]
          have HX_c35 := hide (put5_below (y0 := .int .i64 cap5) (y1 := .slice x5 items5.length y5) (y2 := .bool closed5) (y3 := .slice xs5 ss5.length ys5) (y4 := .slice xg5 gs5.length yg5) (unhide HX_c34) (show w.heap.size ≤ Q by omega))
          have Kp_c35 := hide ((put5_keep (y0 := .int .i64 cap5) (y1 := .slice x5 items5.length y5) (y2 := .bool closed5) (y3 := .slice xs5 ss5.length ys5) (y4 := .slice xg5 gs5.length yg5) (show w.heap.size ≠ Q by omega)).trans (unhide Kp_c34))
          have Kq_c35 := hide (put5_new (y0 := .int .i64 cap5) (y1 := .slice x5 items5.length y5) (y2 := .bool closed5) (y3 := .slice xs5 ss5.length ys5) (y4 := .slice xg5 gs5.length yg5) (unhide Kq_c34))
          have Ka_c35 := hide ((put5_keep (y0 := .int .i64 cap5) (y1 := .slice x5 items5.length y5) (y2 := .bool closed5) (y3 := .slice xs5 ss5.length ys5) (y4 := .slice xg5 gs5.length yg5) (show A ≠ Q by omega)).trans (unhide Ka_c34))
          have Kf_c35 := hide ((put5_keep (y0 := .int .i64 cap5) (y1 := .slice x5 items5.length y5) (y2 := .bool closed5) (y3 := .slice xs5 ss5.length ys5) (y4 := .slice xg5 gs5.length yg5) (show F ≠ Q by omega)).trans (unhide Kf_c34))
          have mv_c35 := Mid.var (unhide HMid) (unhide HNP) (unhide HNA) (show Q < B5 by omega) (show w.heap.size ≤ Q by omega) (unhide Kq_c34) (fun _ _ h => by cases h) (grown_put5 w5 Q (.int .i64 cap5) (.slice x5 items5.length y5) (.bool closed5) (.slice xs5 ss5.length ys5) (.slice xg5 gs5.length yg5))
          have FM_c35 := hide mv_c35.1
          have FNP_c35 := hide mv_c35.2.1
          have FNA_c35 := hide mv_c35.2.2
          clear mv_c35
          obtain ⟨W6, eW6⟩ : ∃ X, put5 w5 Q (.int .i64 cap5) (.slice x5 items5.length y5) (.bool closed5) (.slice xs5 ss5.length ys5) (.slice xg5 gs5.length yg5) = X := ⟨_, rfl⟩
          rw [eW6] at HX_c35 Kp_c35 Kq_c35 Ka_c35 Kf_c35 FM_c35 FNP_c35 FNA_c35
          have gW6 : (((((w5).setCell ⟨Q, 0, none⟩ (.int .i64 cap5)).setCell ⟨Q, 1, none⟩ (.slice x5 items5.length y5)).setCell ⟨Q, 2, none⟩ (.bool closed5)).setCell ⟨Q, 3, none⟩ (.slice xs5 ss5.length ys5)).setCell ⟨Q, 4, none⟩ (.slice xg5 gs5.length yg5) = W6 := eW6
          rw [gW6]
          clear eW6 gW6 HX_c34 Kp_c34 Kq_c34 Ka_c34 Kf_c34 HMid HNP HNA
          refine wpAnyH_ready (rs := [13]) (by kernel_rfl) (by simp) ?_
          refine AllReadyH.cons (o := { dst := none, op := Op.store 34 (Operand.tmp 11) (Operand.tmp 72), type := 0, pos := "law05.go:129", after := #[{ on := 10, ground := Ground.data }, { on := 12, ground := Ground.chain }, { on := 0, ground := Ground.phase }, { on := 1, ground := Ground.phase }, { on := 2, ground := Ground.phase }, { on := 3, ground := Ground.phase }, { on := 4, ground := Ground.phase }, { on := 5, ground := Ground.phase }, { on := 6, ground := Ground.phase }, { on := 7, ground := Ground.phase }, { on := 8, ground := Ground.phase }, { on := 9, ground := Ground.phase }, { on := 10, ground := Ground.phase }, { on := 11, ground := Ground.textOnly Departure.lateStores }, { on := 12, ground := Ground.phase }], guard := none }) rfl (fun K hK => ?_) AllReadyH.nil
          obtain ⟨⟨az0, az1, az2, az3, az4, az5⟩, ⟨azf0, azf1, azf2, azf3, azf4, azf5⟩, azl⟩ := block6 (unhide Ka_c35)
          go_simp
          clear az0 az1 az2 az3 az4 az5 azf0 azf1 azf2 azf3 azf4 azf5 azl
          refine hK.out _ _ (unhide HSS _ (put6_below (y0 := .bool o0) (y1 := .bool o1) (y2 := .bool o2) (y3 := .int .i64 o3) (y4 := .int .i64 o4) (y5 := .slice xw nw yw) (unhide HX_c35) (show w.heap.size ≤ A by omega)) ((put6_keep (y0 := .bool o0) (y1 := .bool o1) (y2 := .bool o2) (y3 := .int .i64 o3) (y4 := .int .i64 o4) (y5 := .slice xw nw yw) (show w.heap.size ≠ A by omega)).trans (unhide Kp_c35))) (fun hHeld => ?_)
          clear hK K
          try simp only [Act.put, List.setIfInBounds_toArray, List.set_cons_zero, List.set_cons_succ]
          have HX_c36 := hide (put6_below (y0 := .bool o0) (y1 := .bool o1) (y2 := .bool o2) (y3 := .int .i64 o3) (y4 := .int .i64 o4) (y5 := .slice xw nw yw) (unhide HX_c35) (show w.heap.size ≤ A by omega))
          have Kp_c36 := hide ((put6_keep (y0 := .bool o0) (y1 := .bool o1) (y2 := .bool o2) (y3 := .int .i64 o3) (y4 := .int .i64 o4) (y5 := .slice xw nw yw) (show w.heap.size ≠ A by omega)).trans (unhide Kp_c35))
          have Kq_c36 := hide ((put6_keep (y0 := .bool o0) (y1 := .bool o1) (y2 := .bool o2) (y3 := .int .i64 o3) (y4 := .int .i64 o4) (y5 := .slice xw nw yw) (show Q ≠ A by omega)).trans (unhide Kq_c35))
          have Ka_c36 := hide (put6_new (y0 := .bool o0) (y1 := .bool o1) (y2 := .bool o2) (y3 := .int .i64 o3) (y4 := .int .i64 o4) (y5 := .slice xw nw yw) (unhide Ka_c35))
          have Kf_c36 := hide ((put6_keep (y0 := .bool o0) (y1 := .bool o1) (y2 := .bool o2) (y3 := .int .i64 o3) (y4 := .int .i64 o4) (y5 := .slice xw nw yw) (show F ≠ A by omega)).trans (unhide Kf_c35))
          have mv_c36 := Mid.var (unhide FM_c35) (unhide FNP_c35) (unhide FNA_c35) (show A < B5 by omega) (show w.heap.size ≤ A by omega) (unhide Ka_c35) (fun _ _ h => by cases h) (grown_put6 W6 A (.bool o0) (.bool o1) (.bool o2) (.int .i64 o3) (.int .i64 o4) (.slice xw nw yw))
          have FM_c36 := hide mv_c36.1
          have FNP_c36 := hide mv_c36.2.1
          have FNA_c36 := hide mv_c36.2.2
          clear mv_c36
          obtain ⟨W7, eW7⟩ : ∃ X, put6 W6 A (.bool o0) (.bool o1) (.bool o2) (.int .i64 o3) (.int .i64 o4) (.slice xw nw yw) = X := ⟨_, rfl⟩
          rw [eW7] at HX_c36 Kp_c36 Kq_c36 Ka_c36 Kf_c36 FM_c36 FNP_c36 FNA_c36
          have gW7 : ((((((W6).setCell ⟨A, 0, none⟩ (.bool o0)).setCell ⟨A, 1, none⟩ (.bool o1)).setCell ⟨A, 2, none⟩ (.bool o2)).setCell ⟨A, 3, none⟩ (.int .i64 o3)).setCell ⟨A, 4, none⟩ (.int .i64 o4)).setCell ⟨A, 5, none⟩ (.slice xw nw yw) = W7 := eW7
          rw [gW7]
          clear eW7 gW7 HX_c35 Kp_c35 Kq_c35 Ka_c35 Kf_c35 FM_c35 FNP_c35 FNA_c35
          refine wpAnyH_ready (rs := [14]) (by kernel_rfl) (by simp) ?_
          refine AllReadyH.cons (o := { dst := none, op := Op.store 30 (Operand.tmp 12) (Operand.tmp 73), type := 0, pos := "law05.go:129", after := #[{ on := 11, ground := Ground.data }, { on := 13, ground := Ground.chain }, { on := 0, ground := Ground.phase }, { on := 1, ground := Ground.phase }, { on := 2, ground := Ground.phase }, { on := 3, ground := Ground.phase }, { on := 4, ground := Ground.phase }, { on := 5, ground := Ground.phase }, { on := 6, ground := Ground.phase }, { on := 7, ground := Ground.phase }, { on := 8, ground := Ground.phase }, { on := 9, ground := Ground.phase }, { on := 10, ground := Ground.phase }, { on := 11, ground := Ground.phase }, { on := 12, ground := Ground.phase }, { on := 13, ground := Ground.phase }], guard := none }) rfl (fun K hK => ?_) AllReadyH.nil
          obtain ⟨fz0, fz1, fzf0, fzf1, fzl⟩ := block2 (unhide Kf_c36)
          go_simp
          clear fz0 fz1 fzf0 fzf1 fzl
          refine hK.out _ _ (unhide HSS _ (put2_below (y0 := .int .i64 0) (y1 := .int .i64 0) (unhide HX_c36) (show w.heap.size ≤ F by omega)) ((put2_keep (y0 := .int .i64 0) (y1 := .int .i64 0) (show w.heap.size ≠ F by omega)).trans (unhide Kp_c36))) (fun hHeld => ?_)
          clear hK K
          try simp only [Act.put, List.setIfInBounds_toArray, List.set_cons_zero, List.set_cons_succ]
          have HX_c37 := hide (put2_below (y0 := .int .i64 0) (y1 := .int .i64 0) (unhide HX_c36) (show w.heap.size ≤ F by omega))
          have Kp_c37 := hide ((put2_keep (y0 := .int .i64 0) (y1 := .int .i64 0) (show w.heap.size ≠ F by omega)).trans (unhide Kp_c36))
          have Kq_c37 := hide ((put2_keep (y0 := .int .i64 0) (y1 := .int .i64 0) (show Q ≠ F by omega)).trans (unhide Kq_c36))
          have Ka_c37 := hide ((put2_keep (y0 := .int .i64 0) (y1 := .int .i64 0) (show A ≠ F by omega)).trans (unhide Ka_c36))
          have Kf_c37 := hide (put2_new (y0 := .int .i64 0) (y1 := .int .i64 0) (unhide Kf_c36))
          have mv_c37 := Mid.var (unhide FM_c36) (unhide FNP_c36) (unhide FNA_c36) (show F < B5 by omega) (show w.heap.size ≤ F by omega) (unhide Kf_c36) (fun _ _ h => by cases h) (grown_put2 W7 F (.int .i64 0) (.int .i64 0))
          have FM_c37 := hide mv_c37.1
          have FNP_c37 := hide mv_c37.2.1
          have FNA_c37 := hide mv_c37.2.2
          clear mv_c37
          obtain ⟨W8, eW8⟩ : ∃ X, put2 W7 F (.int .i64 0) (.int .i64 0) = X := ⟨_, rfl⟩
          rw [eW8] at HX_c37 Kp_c37 Kq_c37 Ka_c37 Kf_c37 FM_c37 FNP_c37 FNA_c37
          have gW8 : ((W7).setCell ⟨F, 0, none⟩ (.int .i64 0)).setCell ⟨F, 1, none⟩ (.int .i64 0) = W8 := eW8
          rw [gW8]
          clear eW8 gW8 HX_c36 Kp_c36 Kq_c36 Ka_c36 Kf_c36 FM_c36 FNP_c36 FNA_c36
          refine wpAnyH_done (by kernel_rfl) ?_ _
          cases o0 with
          | false =>
            obtain ⟨⟨az0, az1, az2, az3, az4, az5⟩, ⟨azf0, azf1, azf2, azf3, azf4, azf5⟩, azl⟩ := block6 (unhide Ka_c37)
            go_wp2_with fail
            go_meet
            case rel => exact ⟨ls, lg, sent, got, as_, ag, cs, cg, cap5, items5, closed5, ss5, gs5, false, o1, o2, o3, o4, wk, x5, xs5, xg5, xw, y5, ys5, yg5, nw, yw, rfl, rfl, unhide HLS, unhide HLG, unhide HNW, unhide HWL, unhide Kp_c37, unhide Kq_c37, unhide Ka_c37, unhide Kf_c37, unhide FM_c37, (by have h9 := unhide HINV; rw [sentM_yes (by decide)]; simpa [gotA] using h9), fun _ => unhide HWK⟩
          | true =>
            cases o2 with
            | false =>
              obtain ⟨⟨az0, az1, az2, az3, az4, az5⟩, ⟨azf0, azf1, azf2, azf3, azf4, azf5⟩, azl⟩ := block6 (unhide Ka_c37)
              go_wp2_with fail
              go_meet
              case rel => exact ⟨ls, lg, sent, got, as_, ag, cs, cg, cap5, items5, closed5, ss5, gs5, true, o1, false, o3, o4, wk, x5, xs5, xg5, xw, y5, ys5, yg5, nw, yw, rfl, rfl, unhide HLS, unhide HLG, unhide HNW, unhide HWL, unhide Kp_c37, unhide Kq_c37, unhide Ka_c37, unhide Kf_c37, unhide FM_c37, (by have h9 := unhide HINV; rw [sentM_yes (by decide)]; simpa [gotA] using h9), fun _ => unhide HWK⟩
            | true =>
              have HLgq := HLG; have HL1q : Hid (lg ≤ 301) := (by have h9 := (unhide HINV).len; have h8 := congrArg List.length (unhide HINV).eq; simp only [List.length_append] at h9 h8; show lg ≤ 301; rw [unhide HLG]; omega)
              obtain ⟨⟨az0, az1, az2, az3, az4, az5⟩, ⟨azf0, azf1, azf2, azf3, azf4, azf5⟩, azl⟩ := block6 (unhide Ka_c37)
              go_wp2_with (at_builtin; refine wpList_append2 ki rfl (.tmp 80) (.tmp 83) rfl w.heap.size _ got rfl ((unhide FM_c37).og.below ((Below.refl _ _).alloc (Nat.le_refl _) (.cells #[.int .i64 o3] 3))) _ [o3] rfl (isl_one ki W8 (o3)) (lg + 1) (by rw [← unhide HLgq]; rfl) (by show (lg + 1) * 8 ≤ 140737488355328; have hz1 := unhide HL1q; omega) (Nat.le_trans (unhide FM_c37).sz (by simp only [World.size_alloc]; exact Nat.le_succ _)) ?_; intro bq dq W9 ho6 hg6 hl6; have FM_c38 := hide (Mid.gets ((unhide FM_c37).below ((Below.refl _ _).alloc (Nat.le_refl _) (.cells #[.int .i64 o3] 3))) ho6 hg6 hl6); have HX_c38 := hide (unhide FM_c38).bel; have Kp_c38 := hide (keep_grown (keep_alloc (unhide Kp_c37) (.cells #[.int .i64 o3] 3)) hg6 (fun j' hj' => Own.ne ((unhide FM_c37).og.below ((Below.refl _ _).alloc (Nat.le_refl _) (.cells #[.int .i64 o3] 3))) (keep_alloc (unhide Kp_c37) (.cells #[.int .i64 o3] 3)) (by decide) j' hj')); have Kq_c38 := hide (keep_grown (keep_alloc (unhide Kq_c37) (.cells #[.int .i64 o3] 3)) hg6 (fun j' hj' => Own.ne ((unhide FM_c37).og.below ((Below.refl _ _).alloc (Nat.le_refl _) (.cells #[.int .i64 o3] 3))) (keep_alloc (unhide Kq_c37) (.cells #[.int .i64 o3] 3)) (by decide) j' hj')); have Ka_c38 := hide (keep_grown (keep_alloc (unhide Ka_c37) (.cells #[.int .i64 o3] 3)) hg6 (fun j' hj' => Own.ne ((unhide FM_c37).og.below ((Below.refl _ _).alloc (Nat.le_refl _) (.cells #[.int .i64 o3] 3))) (keep_alloc (unhide Ka_c37) (.cells #[.int .i64 o3] 3)) (by decide) j' hj')); have Kf_c38 := hide (keep_grown (keep_alloc (unhide Kf_c37) (.cells #[.int .i64 o3] 3)) hg6 (fun j' hj' => Own.ne ((unhide FM_c37).og.below ((Below.refl _ _).alloc (Nat.le_refl _) (.cells #[.int .i64 o3] 3))) (keep_alloc (unhide Kf_c37) (.cells #[.int .i64 o3] 3)) (by decide) j' hj')); clear ho6 hg6 hl6 HX_c37 FM_c37 Kp_c37 Kq_c37 Ka_c37 Kf_c37)
              go_meet
              case rel => exact ⟨ls, (lg + 1), sent, (got ++ [o3]), as_, bq, cs, dq, cap5, items5, closed5, ss5, gs5, true, o1, true, o3, o4, wk, x5, xs5, xg5, xw, y5, ys5, yg5, nw, yw, rfl, rfl, unhide HLS, (by rw [List.length_append, ← unhide HLG]; rfl), unhide HNW, unhide HWL, unhide Kp_c38, unhide Kq_c38, unhide Ka_c38, unhide Kf_c38, unhide FM_c38, (by have h9 := unhide HINV; rw [sentM_yes (by decide)]; simpa [gotA] using h9), fun _ => unhide HWK⟩
        · go_upto_region 21 with fail
          clear km
          have hz0 := (good_iff _).2 (unhide FY_3).inv.good
          have hinv := inv_shut (unhide FY_3).inv
          have HCA : Hid (∀ W v', IsPipe W v' ⟨pcap, items, closed, ss, gs⟩ → Calls Try.prog 22 #[v'] W fun e w' => ∃ v1 v2, e = .returned (.tuple #[v1, v2, .agg #[.int .i64 0, .int .i64 0]]) ∧ NewPipe W.heap.size w' v1 (shutL ⟨pcap, items, closed, ss, gs⟩).1 ∧ NewAns W.heap.size w' v2 (shutL ⟨pcap, items, closed, ss, gs⟩).2 ∧ Below W.heap.size W w') := fun W v' hW => (by have h9 := Shut_any W v' ⟨pcap, items, closed, ss, gs⟩ hW (unhide HSHP); unfold shutR at h9; rw [hz0] at h9; exact h9)
          have hwl : (shutL ⟨pcap, items, closed, ss, gs⟩).2.wakes.length ≤ 6000 := (by have h9 := (shutR_short (P := ⟨pcap, items, closed, ss, gs⟩) (unhide HCN)).2; unfold shutR at h9; rw [hz0, if_pos rfl] at h9; omega)
          obtain ⟨⟨⟨cap5, items5, closed5, ss5, gs5⟩, ⟨o0, o1, o2, o3, o4, wk⟩⟩, hR⟩ : ∃ X, shutL ⟨pcap, items, closed, ss, gs⟩ = X := ⟨_, rfl⟩
          rw [hR] at hinv HCA hwl
          simp only at hinv HCA hwl
          have HINV := hide hinv; have HGD : Hid (pipeF ⟨cap5, items5, closed5, ss5, gs5⟩ = (0, 0)) := (good_iff _).2 hinv.good; have HSH : Hid (Short ⟨cap5, items5, closed5, ss5, gs5⟩) := short_of (Nat.le_trans hinv.good.cnt (by decide))
          obtain ⟨nw, enw⟩ : ∃ k, wk.length = k := ⟨_, rfl⟩
          have HNW := hide enw
          have HWL : Hid (nw ≤ 6000) := (by rw [← enw]; exact hwl)
          clear hz0 hinv hwl hR enw
          obtain ⟨⟨pz0, pz1, pz2, pz3, pz4⟩, ⟨pzf0, pzf1, pzf2, pzf3, pzf4⟩, pzl⟩ := block5 (unhide Kp_3)
          obtain ⟨⟨qz0, qz1, qz2, qz3, qz4⟩, ⟨qzf0, qzf1, qzf2, qzf3, qzf4⟩, qzl⟩ := block5 (unhide Kq_3)
          obtain ⟨⟨az0, az1, az2, az3, az4, az5⟩, ⟨azf0, azf1, azf2, azf3, azf4, azf5⟩, azl⟩ := block6 (unhide Ka_3)
          obtain ⟨fz0, fz1, fzf0, fzf1, fzl⟩ := block2 (unhide Kf_3)
          go_upto_region 22 with (go_at_call 22; refine (unhide HCA _ _ (unhide FY_3).pipe).mono ?_; rintro e w5 ⟨v1, v2, rfl, hq7, ha7, hb7⟩; have hb5 : Below W4.heap.size W4 w5 := hb7; obtain ⟨B5, eB5⟩ : ∃ X, W4.heap.size = X := ⟨_, rfl⟩; have hq8 : NewPipe B5 w5 v1 ⟨cap5, items5, closed5, ss5, gs5⟩ := (by rw [← eB5]; exact hq7); have ha8 : NewAns B5 w5 v2 ⟨o0, o1, o2, o3, o4, wk⟩ := (by rw [← eB5]; exact ha7); have hB5p : w.heap.size < B5 := (by rw [← eB5]; exact size_of (unhide Kp_3)); have hB5q : Q < B5 := (by rw [← eB5]; exact size_of (unhide Kq_3)); have hB5a : A < B5 := (by rw [← eB5]; exact size_of (unhide Ka_3)); have hB5f : F < B5 := (by rw [← eB5]; exact size_of (unhide Kf_3)); have HMid := hide (Play.mid (unhide FY_3) hb5 hq8 ha8 (Nat.le_of_eq eB5) (show w.heap.size < B5 from hB5p)); have HNP := hide hq8; have HNA := hide ha8; obtain ⟨x5, y5, xs5, ys5, xg5, yg5, rfl, -, -, -⟩ := NewPipe.form' hq8; obtain ⟨xw, yw, rfl, -⟩ := NewAns.form' ha8; rw [unhide HNW] at HMid HNA ⊢; have HX_c44 := hide (Below.next (unhide HX_3) hb5 (by first | exact Nat.le_refl _ | (have := unhide HBA; omega))); have Kp_c44 := hide (keep_below (unhide Kp_3) hb5); have Kq_c44 := hide (keep_below (unhide Kq_3) hb5); have Ka_c44 := hide (keep_below (unhide Ka_3) hb5); have Kf_c44 := hide (keep_below (unhide Kf_3) hb5); clear HX_3 Kp_3 Kq_3 Ka_3 Kf_3; clear hb5 hb7 hq7 ha7 hq8 ha8 eB5 FY_3; clear pz0 pz1 pz2 pz3 pz4 pzf0 pzf1 pzf2 pzf3 pzf4 pzl qz0 qz1 qz2 qz3 qz4 qzf0 qzf1 qzf2 qzf3 qzf4 qzl az0 az1 az2 az3 az4 az5 azf0 azf1 azf2 azf3 azf4 azf5 azl fz0 fz1 fzf0 fzf1 fzl; obtain ⟨⟨qz0, qz1, qz2, qz3, qz4⟩, ⟨qzf0, qzf1, qzf2, qzf3, qzf4⟩, qzl⟩ := block5 (unhide Kq_c44); obtain ⟨⟨az0, az1, az2, az3, az4, az5⟩, ⟨azf0, azf1, azf2, azf3, azf4, azf5⟩, azl⟩ := block6 (unhide Ka_c44); obtain ⟨fz0, fz1, fzf0, fzf1, fzl⟩ := block2 (unhide Kf_c44))
          clear qz0 qz1 qz2 qz3 qz4 qzf0 qzf1 qzf2 qzf3 qzf4 qzl az0 az1 az2 az3 az4 az5 azf0 azf1 azf2 azf3 azf4 azf5 azl fz0 fz1 fzf0 fzf1 fzl
          have g0 : (((((((((((((w5).setCell ⟨Q, 0, none⟩ (.int .i64 cap5)).setCell ⟨Q, 1, none⟩ (.slice x5 items5.length y5)).setCell ⟨Q, 2, none⟩ (.bool closed5)).setCell ⟨Q, 3, none⟩ (.slice xs5 ss5.length ys5)).setCell ⟨Q, 4, none⟩ (.slice xg5 gs5.length yg5)).setCell ⟨A, 0, none⟩ (.bool o0)).setCell ⟨A, 1, none⟩ (.bool o1)).setCell ⟨A, 2, none⟩ (.bool o2)).setCell ⟨A, 3, none⟩ (.int .i64 o3)).setCell ⟨A, 4, none⟩ (.int .i64 o4)).setCell ⟨A, 5, none⟩ (.slice xw nw yw)).setCell ⟨F, 0, none⟩ (.int .i64 0)).setCell ⟨F, 1, none⟩ (.int .i64 0) = put2 (put6 (put5 w5 Q (.int .i64 cap5) (.slice x5 items5.length y5) (.bool closed5) (.slice xs5 ss5.length ys5) (.slice xg5 gs5.length yg5)) A (.bool o0) (.bool o1) (.bool o2) (.int .i64 o3) (.int .i64 o4) (.slice xw nw yw)) F (.int .i64 0) (.int .i64 0) := rfl
          rw [g0]
          clear g0
          have HX_c45 := hide (put5_below (y0 := .int .i64 cap5) (y1 := .slice x5 items5.length y5) (y2 := .bool closed5) (y3 := .slice xs5 ss5.length ys5) (y4 := .slice xg5 gs5.length yg5) (unhide HX_c44) (show w.heap.size ≤ Q by omega))
          have Kp_c45 := hide ((put5_keep (y0 := .int .i64 cap5) (y1 := .slice x5 items5.length y5) (y2 := .bool closed5) (y3 := .slice xs5 ss5.length ys5) (y4 := .slice xg5 gs5.length yg5) (show w.heap.size ≠ Q by omega)).trans (unhide Kp_c44))
          have Kq_c45 := hide (put5_new (y0 := .int .i64 cap5) (y1 := .slice x5 items5.length y5) (y2 := .bool closed5) (y3 := .slice xs5 ss5.length ys5) (y4 := .slice xg5 gs5.length yg5) (unhide Kq_c44))
          have Ka_c45 := hide ((put5_keep (y0 := .int .i64 cap5) (y1 := .slice x5 items5.length y5) (y2 := .bool closed5) (y3 := .slice xs5 ss5.length ys5) (y4 := .slice xg5 gs5.length yg5) (show A ≠ Q by omega)).trans (unhide Ka_c44))
          have Kf_c45 := hide ((put5_keep (y0 := .int .i64 cap5) (y1 := .slice x5 items5.length y5) (y2 := .bool closed5) (y3 := .slice xs5 ss5.length ys5) (y4 := .slice xg5 gs5.length yg5) (show F ≠ Q by omega)).trans (unhide Kf_c44))
          have mv_c45 := Mid.var (unhide HMid) (unhide HNP) (unhide HNA) (show Q < B5 by omega) (show w.heap.size ≤ Q by omega) (unhide Kq_c44) (fun _ _ h => by cases h) (grown_put5 w5 Q (.int .i64 cap5) (.slice x5 items5.length y5) (.bool closed5) (.slice xs5 ss5.length ys5) (.slice xg5 gs5.length yg5))
          have FM_c45 := hide mv_c45.1
          have FNP_c45 := hide mv_c45.2.1
          have FNA_c45 := hide mv_c45.2.2
          clear mv_c45
          obtain ⟨W6, eW6⟩ : ∃ X, put5 w5 Q (.int .i64 cap5) (.slice x5 items5.length y5) (.bool closed5) (.slice xs5 ss5.length ys5) (.slice xg5 gs5.length yg5) = X := ⟨_, rfl⟩
          rw [eW6] at HX_c45 Kp_c45 Kq_c45 Ka_c45 Kf_c45 FM_c45 FNP_c45 FNA_c45
          rw [eW6]
          clear eW6 HX_c44 Kp_c44 Kq_c44 Ka_c44 Kf_c44 HMid HNP HNA
          have HX_c46 := hide (put6_below (y0 := .bool o0) (y1 := .bool o1) (y2 := .bool o2) (y3 := .int .i64 o3) (y4 := .int .i64 o4) (y5 := .slice xw nw yw) (unhide HX_c45) (show w.heap.size ≤ A by omega))
          have Kp_c46 := hide ((put6_keep (y0 := .bool o0) (y1 := .bool o1) (y2 := .bool o2) (y3 := .int .i64 o3) (y4 := .int .i64 o4) (y5 := .slice xw nw yw) (show w.heap.size ≠ A by omega)).trans (unhide Kp_c45))
          have Kq_c46 := hide ((put6_keep (y0 := .bool o0) (y1 := .bool o1) (y2 := .bool o2) (y3 := .int .i64 o3) (y4 := .int .i64 o4) (y5 := .slice xw nw yw) (show Q ≠ A by omega)).trans (unhide Kq_c45))
          have Ka_c46 := hide (put6_new (y0 := .bool o0) (y1 := .bool o1) (y2 := .bool o2) (y3 := .int .i64 o3) (y4 := .int .i64 o4) (y5 := .slice xw nw yw) (unhide Ka_c45))
          have Kf_c46 := hide ((put6_keep (y0 := .bool o0) (y1 := .bool o1) (y2 := .bool o2) (y3 := .int .i64 o3) (y4 := .int .i64 o4) (y5 := .slice xw nw yw) (show F ≠ A by omega)).trans (unhide Kf_c45))
          have mv_c46 := Mid.var (unhide FM_c45) (unhide FNP_c45) (unhide FNA_c45) (show A < B5 by omega) (show w.heap.size ≤ A by omega) (unhide Ka_c45) (fun _ _ h => by cases h) (grown_put6 W6 A (.bool o0) (.bool o1) (.bool o2) (.int .i64 o3) (.int .i64 o4) (.slice xw nw yw))
          have FM_c46 := hide mv_c46.1
          have FNP_c46 := hide mv_c46.2.1
          have FNA_c46 := hide mv_c46.2.2
          clear mv_c46
          obtain ⟨W7, eW7⟩ : ∃ X, put6 W6 A (.bool o0) (.bool o1) (.bool o2) (.int .i64 o3) (.int .i64 o4) (.slice xw nw yw) = X := ⟨_, rfl⟩
          rw [eW7] at HX_c46 Kp_c46 Kq_c46 Ka_c46 Kf_c46 FM_c46 FNP_c46 FNA_c46
          rw [eW7]
          clear eW7 HX_c45 Kp_c45 Kq_c45 Ka_c45 Kf_c45 FM_c45 FNP_c45 FNA_c45
          have HX_c47 := hide (put2_below (y0 := .int .i64 0) (y1 := .int .i64 0) (unhide HX_c46) (show w.heap.size ≤ F by omega))
          have Kp_c47 := hide ((put2_keep (y0 := .int .i64 0) (y1 := .int .i64 0) (show w.heap.size ≠ F by omega)).trans (unhide Kp_c46))
          have Kq_c47 := hide ((put2_keep (y0 := .int .i64 0) (y1 := .int .i64 0) (show Q ≠ F by omega)).trans (unhide Kq_c46))
          have Ka_c47 := hide ((put2_keep (y0 := .int .i64 0) (y1 := .int .i64 0) (show A ≠ F by omega)).trans (unhide Ka_c46))
          have Kf_c47 := hide (put2_new (y0 := .int .i64 0) (y1 := .int .i64 0) (unhide Kf_c46))
          have mv_c47 := Mid.var (unhide FM_c46) (unhide FNP_c46) (unhide FNA_c46) (show F < B5 by omega) (show w.heap.size ≤ F by omega) (unhide Kf_c46) (fun _ _ h => by cases h) (grown_put2 W7 F (.int .i64 0) (.int .i64 0))
          have FM_c47 := hide mv_c47.1
          have FNP_c47 := hide mv_c47.2.1
          have FNA_c47 := hide mv_c47.2.2
          clear mv_c47
          obtain ⟨W8, eW8⟩ : ∃ X, put2 W7 F (.int .i64 0) (.int .i64 0) = X := ⟨_, rfl⟩
          rw [eW8] at HX_c47 Kp_c47 Kq_c47 Ka_c47 Kf_c47 FM_c47 FNP_c47 FNA_c47
          rw [eW8]
          clear eW8 HX_c46 Kp_c46 Kq_c46 Ka_c46 Kf_c46 FM_c46 FNP_c46 FNA_c46
          go_wp2_with fail
          go_meet
          case rel => exact ⟨ls, lg, sent, got, as_, ag, cs, cg, cap5, items5, closed5, ss5, gs5, o0, o1, o2, o3, o4, wk, x5, xs5, xg5, xw, y5, ys5, yg5, nw, yw, rfl, rfl, unhide HLS, unhide HLG, unhide HNW, unhide HWL, unhide Kp_c47, unhide Kq_c47, unhide Ka_c47, unhide Kf_c47, unhide FM_c47, (by have h9 := unhide HINV; rw [sentM_no (by decide), List.append_nil]; exact h9), fun hm => absurd hm (by decide)⟩
        · have e0 : (m == 0) = false := by simpa using m0
          have e1 : (m == 1) = false := by simpa using m1
          have e2 : (m == 2) = false := by simpa using m2
          have e3 : (m == 3) = false := by simpa using m3
          have e4 : (m == 4) = false := by simpa using m4
          go_wp2_with fail
          go_roundw
          case rel => exact ⟨j + 1, ls, lg, sent, got, ⟨pcap, items, closed, ss, gs⟩, as_, ag, a1, a2, a3, cs, cg, n1, c1, n2, c2, n3, c3, by omega, rfl, rfl, by go_num, unhide HLS, unhide HLG, unhide Kp_3, ⟨inv_next (unhide FY_3).inv, (unhide FY_3).os, (unhide FY_3).og, (unhide FY_3).ap, (unhide FY_3).pipe, (unhide FY_3).fs, (unhide FY_3).fg, (unhide FY_3).fr, (unhide FY_3).bel, (unhide FY_3).sz⟩⟩
          case measure => simp [intOf]; omega
      case rest =>
        obtain ⟨ls1, lg1, sent1, got1, as1, ag1, cs1, cg1, cap5, items5, closed5, ss5, gs5, o0, o1, o2, o3, o4, wk, x5, xs5, xg5, xw, y5, ys5, yg5, nw, yw, rfl, rfl, hls1, hlg1, hnw, hnl, kp, kq, ka, kf, hmd, hinv, hwk⟩ := hcut
        have HNW := hide hnw; have HWL := hide hnl; have Kpc := hide kp; have Kqc := hide kq; have Kac := hide ka; have Kfc := hide kf; have HMc := hide hmd; have HINVa := hide hinv; have HWK := hide hwk; have HXc := hide hmd.bel; have HGD : Hid (pipeF ⟨cap5, items5, closed5, ss5, gs5⟩ = (0, 0)) := (good_iff _).2 hinv.good; have HSH : Hid (Short ⟨cap5, items5, closed5, ss5, gs5⟩) := short_of (Nat.le_trans hinv.good.cnt (by decide))
        have HS1 := hide hls1; have HG1 := hide hlg1
        clear hnw hnl kp kq ka kf hmd hinv hwk hls1 hlg1 km
        have HLsa : Hid (ls1 = (sent1).length) := unhide HS1
        have HLga : Hid (lg1 = (got1).length) := unhide HG1
        have HL1a : Hid (ls1 ≤ 301) := (by show ls1 ≤ 301; have h7 := unhide HLsa; have h9 := (unhide HINVa).len; have h8 := congrArg List.length (unhide HINVa).eq; simp only [List.length_append] at h7 h8 h9; omega)
        have HL2a : Hid (lg1 ≤ 301) := (by show lg1 ≤ 301; have h7 := unhide HLga; have h9 := (unhide HINVa).len; have h8 := congrArg List.length (unhide HINVa).eq; simp only [List.length_append] at h7 h8 h9; omega)
        obtain ⟨fz0, fz1, fzf0, fzf1, fzl⟩ := block2 (unhide Kfc)
        obtain ⟨⟨qz0, qz1, qz2, qz3, qz4⟩, ⟨qzf0, qzf1, qzf2, qzf3, qzf4⟩, qzl⟩ := block5 (unhide Kqc)
        have HCK : Hid (Calls Try.prog 12 #[(.agg #[.int .i64 cap5, .slice x5 items5.length y5, .bool closed5, .slice xs5 ss5.length ys5, .slice xg5 gs5.length yg5])] wc fun e w' => e = .returned (.agg #[.int .i64 0, .int .i64 0]) ∧ Below wc.heap.size wc w') := (by have h9 := check_any wc _ ⟨cap5, items5, closed5, ss5, gs5⟩ (unhide HMc).pipe (unhide HSH); rw [unhide HGD] at h9; exact h9)
        go_upto_region 24 with (go_at_call 12; refine (unhide HCK).mono ?_; rintro e w9a ⟨rfl, hb9⟩; have HX_r1 := hide (Below.next (unhide HXc) hb9 (by first | exact Nat.le_refl _ | (have := unhide HBA; omega))); have Kp_r1 := hide (keep_below (unhide Kpc) hb9); have Kq_r1 := hide (keep_below (unhide Kqc) hb9); have Ka_r1 := hide (keep_below (unhide Kac) hb9); have Kf_r1 := hide (keep_below (unhide Kfc) hb9); have FM_r1 := hide ((unhide HMc).below hb9); clear HXc Kpc Kqc Kac Kfc HMc; clear hb9 fz0 fz1 fzf0 fzf1 fzl qz0 qz1 qz2 qz3 qz4 qzf0 qzf1 qzf2 qzf3 qzf4 qzl)
        clear HCK
        obtain ⟨⟨az0, az1, az2, az3, az4, az5⟩, ⟨azf0, azf1, azf2, azf3, azf4, azf5⟩, azl⟩ := block6 (unhide Ka_r1)
        go_wp2
        clear az0 az1 az2 az3 az4 az5 azf0 azf1 azf2 azf3 azf4 azf5 azl
        go_loopw [4, 5, 13] (fun s g i wr => ∃ (y ls' lg' : Nat) (as' ag' : Option Addr) (cs' cg' : Nat), y ≤ nw ∧ s = .slice as' ls' cs' ∧ g = .slice ag' lg' cg' ∧ i = .int .i64 y ∧ ls' = (sent1 ++ sentM m (wk.take y)).length ∧ lg' = (got1 ++ gotW (wk.take y)).length ∧ ls' ≤ 301 + y ∧ lg' ≤ 301 + y ∧ wr.heap[w.heap.size]? = some (.cells #[.int .i64 pcap, .slice a1 n1 c1, .bool closed, .slice a2 n2 c2, .slice a3 n3 c3] 25) ∧ wr.heap[Q]? = some (.cells #[.int .i64 cap5, .slice x5 items5.length y5, .bool closed5, .slice xs5 ss5.length ys5, .slice xg5 gs5.length yg5] 25) ∧ wr.heap[A]? = some (.cells #[.bool o0, .bool o1, .bool o2, .int .i64 o3, .int .i64 o4, .slice xw nw yw] 34) ∧ Mid w.heap.size w (.slice as' ls' cs') (.slice ag' lg' cg') wr (sent1 ++ sentM m (wk.take y)) (got1 ++ gotW (wk.take y)) ⟨cap5, items5, closed5, ss5, gs5⟩ (.agg #[.int .i64 cap5, .slice x5 items5.length y5, .bool closed5, .slice xs5 ss5.length ys5, .slice xg5 gs5.length yg5]) ⟨o0, o1, o2, o3, o4, wk⟩ (.agg #[.bool o0, .bool o1, .bool o2, .int .i64 o3, .int .i64 o4, .slice xw nw yw])) (fun _ _ i _ => nw - (intOf i).toNat)
        case atStart => exact ⟨0, _, _, _, _, _, _, Nat.zero_le _, rfl, rfl, rfl, by have h9 := unhide HLsa; simpa [sentM, sentW] using h9, by have h9 := unhide HLga; simpa [gotW] using h9, by have h9 := unhide HL1a; omega, by have h9 := unhide HL2a; omega, unhide Kp_r1, unhide Kq_r1, unhide Ka_r1, by have h9 := unhide FM_r1; simpa [gotW, sentM, sentW] using h9⟩
        case round =>
          obtain ⟨y, ls', lg', as', ag', cs', cg', hy, rfl, rfl, rfl, hls, hlg, hb1, hb2, hkp, hkq, hka, hmd⟩ := hrel
          have HLsx := hide hls; have HLgx := hide hlg; have HKp := hide hkp; have HKq := hide hkq; have HKa := hide hka; have HMd := hide hmd; have HL1x := hide hb1; have HL2x := hide hb2
          clear hls hlg hkp hkq hka hmd hb1 hb2 FM_r1 HX_r1 Kp_r1 Kq_r1 Ka_r1
          have HXr := hide (unhide HMd).bel
          obtain ⟨⟨az0, az1, az2, az3, az4, az5⟩, ⟨azf0, azf1, azf2, azf3, azf4, azf5⟩, azl⟩ := block6 (unhide HKa)
          by_cases hyn : y < nw
          · have hnw6 := unhide HWL
            obtain ⟨vw, ev, hw⟩ := (unhide HMd).ans
            cases ev
            obtain ⟨b0, o9, exw, hb0, l0⟩ := hw.opens kw (unhide HNW) (by omega)
            subst exw
            obtain ⟨⟨t, c, u, o, p⟩, hx⟩ : ∃ x, wk.getD y (0, 0, 0, false, false) = x := ⟨_, rfl⟩
            obtain ⟨k0, k1, k2, k3, k4⟩ := l0.wake (j := y) (by rw [unhide HNW]; exact hyn) hx
            have HGT2 := hide (gotW_take (ws := wk) (y := y) (by rw [unhide HNW]; exact hyn)); have HST2 := hide (sentW_take (ws := wk) (y := y) (by rw [unhide HNW]; exact hyn))
            rw [hx] at HGT2 HST2
            simp only at HGT2 HST2
            have j0 : (0 : Int) ≤ (y : Int) := by omega
            have j1 : (y : Int) < (nw : Int) := by omega
            have htb : (m = 2 ∨ m = 3) → 1 ≤ t ∧ t ≤ (j : Int) := (fun hm => by have h9 := unhide HWK hm (t, c, u, o, p) (by rw [← hx, List.getD_eq_getElem?_getD, List.getElem?_eq_getElem (by rw [unhide HNW]; exact hyn)]; exact List.getElem_mem _); exact h9)
            have HTB := hide htb
            clear htb
            clear hw l0 hx
            go_upto_region 28 with fail
            clear az0 az1 az2 az3 az4 az5 azf0 azf1 azf2 azf3 azf4 azf5 azl
            clear k0 k1 k2 k3 k4
            have HX_ia1 := hide ((unhide HXr).alloc (Nat.le_trans (show w.heap.size ≤ w.heap.size from Nat.le_refl _) (unhide HXr).size) (.cells #[.int .i64 t, .int .i64 c, .int .i64 u, .bool o, .bool p] 64))
            have Kp_ia1 := hide (keep_alloc (unhide HKp) (.cells #[.int .i64 t, .int .i64 c, .int .i64 u, .bool o, .bool p] 64))
            have Kq_ia1 := hide (keep_alloc (unhide HKq) (.cells #[.int .i64 t, .int .i64 c, .int .i64 u, .bool o, .bool p] 64))
            have Ka_ia1 := hide (keep_alloc (unhide HKa) (.cells #[.int .i64 t, .int .i64 c, .int .i64 u, .bool o, .bool p] 64))
            have FM_ia1 := hide ((unhide HMd).below ((Below.refl _ _).alloc (Nat.le_refl _) (.cells #[.int .i64 t, .int .i64 c, .int .i64 u, .bool o, .bool p] 64)))
            have KV_ia1 := hide (new_block wr (.cells #[.int .i64 t, .int .i64 c, .int .i64 u, .bool o, .bool p] 64))
            have hlp_V : w.heap.size < wr.heap.size := size_of (unhide HKp)
            have hlq_V : Q < wr.heap.size := size_of (unhide HKq)
            have hla_V : A < wr.heap.size := size_of (unhide HKa)
            obtain ⟨V, eV⟩ : ∃ X, wr.heap.size = X := ⟨_, rfl⟩
            obtain ⟨W20, eW20⟩ : ∃ X, wr.alloc (.cells #[.int .i64 t, .int .i64 c, .int .i64 u, .bool o, .bool p] 64) = X := ⟨_, rfl⟩
            rw [eV, eW20] at KV_ia1; rw [eW20] at HX_ia1 Kp_ia1 Kq_ia1 Ka_ia1 FM_ia1; rw [eV] at hlp_V hlq_V hla_V; rw [eV, eW20]
            clear eV eW20 HXr HKp HKq HKa HMd
            obtain ⟨⟨vz0, vz1, vz2, vz3, vz4⟩, ⟨vzf0, vzf1, vzf2, vzf3, vzf4⟩, vzl⟩ := block5 (unhide KV_ia1)
            cases o with
            | true =>
              simp only [if_true, List.append_nil] at HGT2 HST2
              have HSM : Hid (sentM m (wk.take (y + 1)) = sentM m (wk.take y)) := (by by_cases hm : m = 2 ∨ m = 3 <;> first | (exact (sentM_yes hm _).trans ((unhide HST2).trans (sentM_yes hm _).symm)) | (exact (sentM_no hm _).trans (sentM_no hm _).symm))
              go_wp2_with (at_builtin; refine wpList_append2 ki rfl (.tmp 117) (.tmp 120) rfl w.heap.size _ (got1 ++ gotW (wk.take y)) rfl ((unhide FM_ia1).og.below ((Below.refl _ _).alloc (Nat.le_refl _) (.cells #[.int .i64 u] 3))) _ [u] rfl (isl_one ki W20 (u)) (lg' + 1) (by rw [← unhide HLgx]; rfl) (by show (lg' + 1) * 8 ≤ 140737488355328; have hz1 := unhide HL2x; omega) (Nat.le_trans (unhide FM_ia1).sz (by simp only [World.size_alloc]; exact Nat.le_succ _)) ?_; intro bx dx W21 ho6 hg6 hl6; have FM_ia2 := hide (Mid.gets ((unhide FM_ia1).below ((Below.refl _ _).alloc (Nat.le_refl _) (.cells #[.int .i64 u] 3))) ho6 hg6 hl6); have HX_ia2 := hide (unhide FM_ia2).bel; have Kp_ia2 := hide (keep_grown (keep_alloc (unhide Kp_ia1) (.cells #[.int .i64 u] 3)) hg6 (fun j' hj' => Own.ne ((unhide FM_ia1).og.below ((Below.refl _ _).alloc (Nat.le_refl _) (.cells #[.int .i64 u] 3))) (keep_alloc (unhide Kp_ia1) (.cells #[.int .i64 u] 3)) (by decide) j' hj')); have Kq_ia2 := hide (keep_grown (keep_alloc (unhide Kq_ia1) (.cells #[.int .i64 u] 3)) hg6 (fun j' hj' => Own.ne ((unhide FM_ia1).og.below ((Below.refl _ _).alloc (Nat.le_refl _) (.cells #[.int .i64 u] 3))) (keep_alloc (unhide Kq_ia1) (.cells #[.int .i64 u] 3)) (by decide) j' hj')); have Ka_ia2 := hide (keep_grown (keep_alloc (unhide Ka_ia1) (.cells #[.int .i64 u] 3)) hg6 (fun j' hj' => Own.ne ((unhide FM_ia1).og.below ((Below.refl _ _).alloc (Nat.le_refl _) (.cells #[.int .i64 u] 3))) (keep_alloc (unhide Ka_ia1) (.cells #[.int .i64 u] 3)) (by decide) j' hj')); have KV_ia2 := hide (keep_grown (keep_alloc (unhide KV_ia1) (.cells #[.int .i64 u] 3)) hg6 (fun j' hj' => Own.ne ((unhide FM_ia1).og.below ((Below.refl _ _).alloc (Nat.le_refl _) (.cells #[.int .i64 u] 3))) (keep_alloc (unhide KV_ia1) (.cells #[.int .i64 u] 3)) (by decide) j' hj')); clear ho6 hg6 hl6 HX_ia1 FM_ia1 Kp_ia1 Kq_ia1 Ka_ia1 KV_ia1)
              go_roundw
              case rel => exact ⟨y + 1, ls', lg' + 1, as', bx, cs', dx, by omega, rfl, rfl, by go_num, by rw [unhide HSM]; exact unhide HLsx, by rw [unhide HGT2, ← List.append_assoc, List.length_append, ← unhide HLgx]; rfl, by have h9 := unhide HL1x; omega, by have h9 := unhide HL2x; omega, unhide Kp_ia2, unhide Kq_ia2, unhide Ka_ia2, by have h9 := unhide FM_ia2; rw [List.append_assoc, ← unhide HGT2] at h9; rw [← unhide HSM] at h9; exact h9⟩
              case measure => simp [intOf]; omega
            | false =>
              simp only [Bool.false_eq_true, if_false, List.append_nil] at HGT2 HST2
              have km := unhide HMC W20 (unhide HX_ia1)
              rcases (Decidable.em (m = 2 ∨ m = 3)) with hm | hm
              · have HSM : Hid (sentM m (wk.take (y + 1)) = sentM m (wk.take y) ++ [t - 1]) := (by have h9 := unhide HST2; rw [← sentM_yes hm, ← sentM_yes hm] at h9; exact h9)
                obtain ⟨ht1, ht2⟩ := unhide HTB hm
                have w5 : IntKind.i64.wrap (t - 1) = t - 1 := wrapi (by omega) (by omega)
                rcases hm with rfl | rfl
                · go_wp2_with (at_builtin; refine wpList_append2 ki rfl (.tmp 134) (.tmp 138) rfl w.heap.size _ (sent1 ++ sentM 2 (wk.take y)) rfl ((unhide FM_ia1).os.below ((Below.refl _ _).alloc (Nat.le_refl _) (.cells #[.int .i64 (t - 1)] 3))) _ [(t - 1)] rfl (isl_one ki W20 ((t - 1))) (ls' + 1) (by rw [← unhide HLsx]; rfl) (by show (ls' + 1) * 8 ≤ 140737488355328; have hz1 := unhide HL1x; omega) (Nat.le_trans (unhide FM_ia1).sz (by simp only [World.size_alloc]; exact Nat.le_succ _)) ?_; intro bx dx W21 ho6 hg6 hl6; have FM_ia2 := hide (Mid.sends ((unhide FM_ia1).below ((Below.refl _ _).alloc (Nat.le_refl _) (.cells #[.int .i64 (t - 1)] 3))) ho6 hg6 hl6); have HX_ia2 := hide (unhide FM_ia2).bel; have Kp_ia2 := hide (keep_grown (keep_alloc (unhide Kp_ia1) (.cells #[.int .i64 (t - 1)] 3)) hg6 (fun j' hj' => Own.ne ((unhide FM_ia1).os.below ((Below.refl _ _).alloc (Nat.le_refl _) (.cells #[.int .i64 (t - 1)] 3))) (keep_alloc (unhide Kp_ia1) (.cells #[.int .i64 (t - 1)] 3)) (by decide) j' hj')); have Kq_ia2 := hide (keep_grown (keep_alloc (unhide Kq_ia1) (.cells #[.int .i64 (t - 1)] 3)) hg6 (fun j' hj' => Own.ne ((unhide FM_ia1).os.below ((Below.refl _ _).alloc (Nat.le_refl _) (.cells #[.int .i64 (t - 1)] 3))) (keep_alloc (unhide Kq_ia1) (.cells #[.int .i64 (t - 1)] 3)) (by decide) j' hj')); have Ka_ia2 := hide (keep_grown (keep_alloc (unhide Ka_ia1) (.cells #[.int .i64 (t - 1)] 3)) hg6 (fun j' hj' => Own.ne ((unhide FM_ia1).os.below ((Below.refl _ _).alloc (Nat.le_refl _) (.cells #[.int .i64 (t - 1)] 3))) (keep_alloc (unhide Ka_ia1) (.cells #[.int .i64 (t - 1)] 3)) (by decide) j' hj')); have KV_ia2 := hide (keep_grown (keep_alloc (unhide KV_ia1) (.cells #[.int .i64 (t - 1)] 3)) hg6 (fun j' hj' => Own.ne ((unhide FM_ia1).os.below ((Below.refl _ _).alloc (Nat.le_refl _) (.cells #[.int .i64 (t - 1)] 3))) (keep_alloc (unhide KV_ia1) (.cells #[.int .i64 (t - 1)] 3)) (by decide) j' hj')); clear ho6 hg6 hl6 HX_ia1 FM_ia1 Kp_ia1 Kq_ia1 Ka_ia1 KV_ia1)
                  go_roundw
                  case rel => exact ⟨y + 1, ls' + 1, lg', bx, ag', dx, cg', by omega, rfl, rfl, by go_num, by rw [unhide HSM, ← List.append_assoc, List.length_append, ← unhide HLsx]; rfl, by rw [unhide HGT2]; exact unhide HLgx, by have h9 := unhide HL1x; omega, by have h9 := unhide HL2x; omega, unhide Kp_ia2, unhide Kq_ia2, unhide Ka_ia2, by have h9 := unhide FM_ia2; rw [List.append_assoc, ← unhide HSM, ← unhide HGT2] at h9; exact h9⟩
                  case measure => simp [intOf]; omega
                · go_wp2_with (at_builtin; refine wpList_append2 ki rfl (.tmp 134) (.tmp 138) rfl w.heap.size _ (sent1 ++ sentM 3 (wk.take y)) rfl ((unhide FM_ia1).os.below ((Below.refl _ _).alloc (Nat.le_refl _) (.cells #[.int .i64 (t - 1)] 3))) _ [(t - 1)] rfl (isl_one ki W20 ((t - 1))) (ls' + 1) (by rw [← unhide HLsx]; rfl) (by show (ls' + 1) * 8 ≤ 140737488355328; have hz1 := unhide HL1x; omega) (Nat.le_trans (unhide FM_ia1).sz (by simp only [World.size_alloc]; exact Nat.le_succ _)) ?_; intro bx dx W21 ho6 hg6 hl6; have FM_ia2 := hide (Mid.sends ((unhide FM_ia1).below ((Below.refl _ _).alloc (Nat.le_refl _) (.cells #[.int .i64 (t - 1)] 3))) ho6 hg6 hl6); have HX_ia2 := hide (unhide FM_ia2).bel; have Kp_ia2 := hide (keep_grown (keep_alloc (unhide Kp_ia1) (.cells #[.int .i64 (t - 1)] 3)) hg6 (fun j' hj' => Own.ne ((unhide FM_ia1).os.below ((Below.refl _ _).alloc (Nat.le_refl _) (.cells #[.int .i64 (t - 1)] 3))) (keep_alloc (unhide Kp_ia1) (.cells #[.int .i64 (t - 1)] 3)) (by decide) j' hj')); have Kq_ia2 := hide (keep_grown (keep_alloc (unhide Kq_ia1) (.cells #[.int .i64 (t - 1)] 3)) hg6 (fun j' hj' => Own.ne ((unhide FM_ia1).os.below ((Below.refl _ _).alloc (Nat.le_refl _) (.cells #[.int .i64 (t - 1)] 3))) (keep_alloc (unhide Kq_ia1) (.cells #[.int .i64 (t - 1)] 3)) (by decide) j' hj')); have Ka_ia2 := hide (keep_grown (keep_alloc (unhide Ka_ia1) (.cells #[.int .i64 (t - 1)] 3)) hg6 (fun j' hj' => Own.ne ((unhide FM_ia1).os.below ((Below.refl _ _).alloc (Nat.le_refl _) (.cells #[.int .i64 (t - 1)] 3))) (keep_alloc (unhide Ka_ia1) (.cells #[.int .i64 (t - 1)] 3)) (by decide) j' hj')); have KV_ia2 := hide (keep_grown (keep_alloc (unhide KV_ia1) (.cells #[.int .i64 (t - 1)] 3)) hg6 (fun j' hj' => Own.ne ((unhide FM_ia1).os.below ((Below.refl _ _).alloc (Nat.le_refl _) (.cells #[.int .i64 (t - 1)] 3))) (keep_alloc (unhide KV_ia1) (.cells #[.int .i64 (t - 1)] 3)) (by decide) j' hj')); clear ho6 hg6 hl6 HX_ia1 FM_ia1 Kp_ia1 Kq_ia1 Ka_ia1 KV_ia1)
                  go_roundw
                  case rel => exact ⟨y + 1, ls' + 1, lg', bx, ag', dx, cg', by omega, rfl, rfl, by go_num, by rw [unhide HSM, ← List.append_assoc, List.length_append, ← unhide HLsx]; rfl, by rw [unhide HGT2]; exact unhide HLgx, by have h9 := unhide HL1x; omega, by have h9 := unhide HL2x; omega, unhide Kp_ia2, unhide Kq_ia2, unhide Ka_ia2, by have h9 := unhide FM_ia2; rw [List.append_assoc, ← unhide HSM, ← unhide HGT2] at h9; exact h9⟩
                  case measure => simp [intOf]; omega
              · have HSM : Hid (sentM m (wk.take (y + 1)) = sentM m (wk.take y)) := (sentM_no hm _).trans (sentM_no hm _).symm
                have e2 : (m == 2) = false := by simp; omega
                have e3 : (m == 3) = false := by simp; omega
                clear hm
                go_wp2_with fail
                go_roundw
                case rel => exact ⟨y + 1, ls', lg', as', ag', cs', cg', by omega, rfl, rfl, by go_num, by rw [unhide HSM]; exact unhide HLsx, by rw [unhide HGT2]; exact unhide HLgx, by have h9 := unhide HL1x; omega, by have h9 := unhide HL2x; omega, unhide Kp_ia1, unhide Kq_ia1, unhide Ka_ia1, by have h9 := unhide FM_ia1; rw [← unhide HGT2, ← unhide HSM] at h9; exact h9⟩
                case measure => simp [intOf]; omega
          · have hnw6 := unhide HWL
            have hyw : y = nw := by omega
            subst hyw
            have htk : wk.take y = wk := List.take_of_length_le (by rw [unhide HNW]; exact Nat.le_refl _)
            rw [htk] at HLsx HLgx HMd
            clear htk
            obtain ⟨⟨pz0, pz1, pz2, pz3, pz4⟩, ⟨pzf0, pzf1, pzf2, pzf3, pzf4⟩, pzl⟩ := block5 (unhide HKp)
            obtain ⟨⟨qz0, qz1, qz2, qz3, qz4⟩, ⟨qzf0, qzf1, qzf2, qzf3, qzf4⟩, qzl⟩ := block5 (unhide HKq)
            go_wp2_with fail
            clear pz0 pz1 pz2 pz3 pz4 pzf0 pzf1 pzf2 pzf3 pzf4 pzl qz0 qz1 qz2 qz3 qz4 qzf0 qzf1 qzf2 qzf3 qzf4 qzl
            clear az0 az1 az2 az3 az4 az5 azf0 azf1 azf2 azf3 azf4 azf5 azl
            have HPLn := hide (Mid.play (unhide HMd) (unhide HINVa) (unhide HKp) (fun _ _ h => by cases h) (grown_put5 wr w.heap.size (.int .i64 cap5) (.slice x5 items5.length y5) (.bool closed5) (.slice xs5 ss5.length ys5) (.slice xg5 gs5.length yg5))); have KPn := hide (put5_new (y0 := .int .i64 cap5) (y1 := .slice x5 items5.length y5) (y2 := .bool closed5) (y3 := .slice xs5 ss5.length ys5) (y4 := .slice xg5 gs5.length yg5) (unhide HKp))
            obtain ⟨Wn, en⟩ : ∃ X, put5 wr w.heap.size (.int .i64 cap5) (.slice x5 items5.length y5) (.bool closed5) (.slice xs5 ss5.length ys5) (.slice xg5 gs5.length yg5) = X := ⟨_, rfl⟩
            rw [en] at HPLn KPn
            have en2 : (((((wr).setCell ⟨w.heap.size, 0, none⟩ (.int .i64 cap5)).setCell ⟨w.heap.size, 1, none⟩ (.slice x5 items5.length y5)).setCell ⟨w.heap.size, 2, none⟩ (.bool closed5)).setCell ⟨w.heap.size, 3, none⟩ (.slice xs5 ss5.length ys5)).setCell ⟨w.heap.size, 4, none⟩ (.slice xg5 gs5.length yg5) = Wn := en
            rw [en2]
            clear en en2
            go_roundw
            case rel => exact ⟨j + 1, ls', lg', _, _, ⟨cap5, items5, closed5, ss5, gs5⟩, as', ag', x5, xs5, xg5, cs', cg', items5.length, y5, ss5.length, ys5, gs5.length, yg5, by omega, rfl, rfl, by go_num, unhide HLsx, unhide HLgx, unhide KPn, unhide HPLn⟩
            case measure => simp [intOf]; omega
    · have hjn : j = n := by omega
      subst hjn
      obtain ⟨⟨p0, p1, p2, p3, p4⟩, ⟨pf0, pf1, pf2, pf3, pf4⟩, pl⟩ := block5 (unhide HKP)
      go_wp2_with fail
      go_region
      have HPLf := hide (Play.keeps (unhide HPL) (unhide HKP) (fun _ _ h => by cases h) (grown_trans (grown_put5 wr w.heap.size (.int .i64 pcap) (.slice a1 n1 c1) (.bool closed) (.slice a2 n2 c2) (.slice a3 n3 c3)) (grown_of_below (Below.refl _ _).drew))); have KPf := hide (keep_below (put5_new (y0 := .int .i64 pcap) (y1 := .slice a1 n1 c1) (y2 := .bool closed) (y3 := .slice a2 n2 c2) (y4 := .slice a3 n3 c3) (unhide HKP)) (Below.refl _ _).drew)
      obtain ⟨Wf, ef⟩ : ∃ X, (put5 wr w.heap.size (.int .i64 pcap) (.slice a1 n1 c1) (.bool closed) (.slice a2 n2 c2) (.slice a3 n3 c3)).drew = X := ⟨_, rfl⟩
      rw [ef] at HPLf KPf
      have ef2 : ((((((wr).setCell ⟨w.heap.size, 0, none⟩ (.int .i64 pcap)).setCell ⟨w.heap.size, 1, none⟩ (.slice a1 n1 c1)).setCell ⟨w.heap.size, 2, none⟩ (.bool closed)).setCell ⟨w.heap.size, 3, none⟩ (.slice a2 n2 c2)).setCell ⟨w.heap.size, 4, none⟩ (.slice a3 n3 c3)).drew = Wf := ef
      rw [ef2]
      clear ef ef2 p0 p1 p2 p3 p4 pf0 pf1 pf2 pf3 pf4 pl
      obtain ⟨q0, q1, q2, q3, q4⟩ := (block5 (unhide KPf)).1
      go_wp2_with fail
      have hls := unhide HLS; have hlg := unhide HLG
      subst hls
      subst hlg
      refine bodyPost_ret (v := .tuple #[.slice as_ sent.length cs, .slice ag got.length cg, .agg #[.int .i64 pcap, .slice a1 n1 c1, .bool closed, .slice a2 n2 c2, .slice a3 n3 c3], .bool true]) (by simp [results, Try.results28, go_sem, q0, q1, q2, q3, q4]) rfl ⟨sent, got, ⟨pcap, items, closed, ss, gs⟩, as_, cs, ag, cg, _, rfl, (unhide HPLf).inv, (unhide HPLf).os.isl, (unhide HPLf).og.isl, (unhide HPLf).pipe, (unhide HPLf).bel⟩
end Go.Proofs.Ytijogcjocandcaa
