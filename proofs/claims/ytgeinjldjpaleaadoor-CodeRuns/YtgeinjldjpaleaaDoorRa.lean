/-
  taskmilllaw.CodeRuns.
-/
import Derived.Test.YtgeinjldjpaleaaDoorM
import Derived.Test.YtgeinjldjpaleaaDoorEq
import Derived.Test.YtgeinjldjpaleaaDoorDa
import Derived.Test.YtgeinjldjpaleaaDoorDc
import Derived.Test.YtgeinjldjpaleaaDoorDp
namespace Go.Proofs.YtgeinjldjpaleaaDoor
open Go.RowKit
theorem runR_ok' {p : Pg} {pc fuel : Int} {r : Nat → Int} (hc : (checkF p).1 = 0) (h1 : 0 ≤ pc ∧ pc ≤ p.code.length) (h2 : 0 ≤ fuel ∧ fuel ≤ 5000) : runR p pc fuel r = ((runL p fuel.toNat pc r).1, (runL p fuel.toNat pc r).2.1, ((runL p fuel.toNat pc r).2.2 : Int), (0, 0)) := by
  have e : runFault p pc fuel = (0, 0) := by unfold runFault; rw [if_neg (fun h => h hc), if_pos ⟨h1, h2⟩]
  unfold runR
  rw [e, if_neg (by simp)]

set_option maxRecDepth 100000 in
set_option maxHeartbeats 2000000 in
theorem runs_vast (w : World) (v : Value) (p : Pg) (h : IsP w v p) (ht : Tabs w) (hA : ArgsAt w) (hn : p.code.length ≤ maxLen) (hm : p.pipes.length ≤ maxLen) (hn2 : p.code.length * 24 ≤ 140737488355328) (hm2 : p.pipes.length * 8 ≤ 140737488355328) (pc : Int) (r : Nat → Int) (fuel : Int) (hv : 2000 < p.code.length ∨ 2000 < p.pipes.length) :
    Calls Tryd.prog 3 #[v, .int .i64 pc, rv r, .int .i64 fuel] w fun e w' => e = .returned (.bool true) ∧ Below w.heap.size w w' := by
  obtain ⟨a, c, b, d, rfl, hc, hp⟩ := h.form
  obtain ⟨W0, e0, hB, k0, k1⟩ := two_new w (.cells #[.slice a p.code.length c, .int .i64 p.cells, .slice b p.pipes.length d, .int .i64 p.locks, .int .i64 p.groups] 25) (.cells #[.int .i64 (r 0), .int .i64 (r 1), .int .i64 (r 2), .int .i64 (r 3), .int .i64 (r 4), .int .i64 (r 5), .int .i64 (r 6), .int .i64 (r 7)] 26)
  have HX := hide hB; have HE := hide e0; have HK := hide k0; have HR : Hid (W0.heap[w.heap.size + 1]? = some (.cells (rvA r) 26 (0, 0))) := k1
  have HV := hide fun W (hW : Below w.heap.size w W) => vast_any W _ p (h.below hW) hn hm
  have HBG := hide fun W (hW : Below w.heap.size w W) => begun_any W (ht.below hW)
  have HOP := hide fun W (hW : Below w.heap.size w W) => ownProgram_any W _ p (h.below hW) hn2 hm2
  have HPF := hide fun W (hW : Below w.heap.size w W) => pf_any W _ p (h.below hW) (hA.below hW)
  have HCK := hide fun W (hW : Below w.heap.size w W) v (hv : IsP W v p) => check_any W v p hv (ht.below hW) hn hm
  have HRN := hide fun W (hW : Below w.heap.size w W) v (hv : IsP W v p) => run_any W v p hv (ht.below hW) hn hm pc fuel r
  have HSM := hide fun W (hW : Below w.heap.size w W) v (hv : IsL KC W v p.code) => code_same W v _ p.code hv (hc.below hW) hn
  have HC0 := hide (hc.opens kc rfl)
  obtain ⟨n, en⟩ : ∃ n, p.code.length = n := ⟨_, rfl⟩
  obtain ⟨m, em⟩ : ∃ m, p.pipes.length = m := ⟨_, rfl⟩
  have HN := hide en; have HM := hide em
  rw [decide_eq_true hv] at HV
  rw [en] at HE HK HV HOP HPF HSM HC0; rw [em] at HE HK HV HOP HPF; rw [en, em]
  clear hB e0 k0 k1 h hc hp ht hn hm hA hn2 hm2 hv en em HOP HPF HCK HRN HSM HC0
  unfold rv rvA
  go_enter Tryd.func3, Tryd.ntmps3
  go_upto_region 1 with fail
  rw [unhide HE]
  clear HE
  go_upto_region 3 with (go_at_call 7; refine (unhide HBG _ (unhide HX)).mono ?_; rintro e w1 ⟨rfl, b1⟩; have HX1 := hide ((unhide HX).trans (b1.mono (unhide HX).size)); have HK1 := hide (keep_below (unhide HK) b1); have HR1 := hide (keep_below (unhide HR) b1); clear b1 HX HK HR HBG)
  obtain ⟨⟨q0, q1, q2, q3, q4⟩, ql⟩ := block5 (unhide HK1)
  go_wp2_with (go_at_call 8; refine (unhide HV _ (unhide HX1)).mono ?_; rintro e w2 ⟨rfl, b2⟩; have HX2 := hide ((unhide HX1).trans (b2.mono (unhide HX1).size)); have HK2 := hide (keep_below (unhide HK1) b2); have HR2 := hide (keep_below (unhide HR1) b2); clear b2 q0 q1 q2 q3 q4 HX1 HK1 HR1 HV)
  go_ret
  exact ⟨rfl, unhide HX2⟩

set_option maxRecDepth 100000 in
set_option maxHeartbeats 2000000 in
theorem runs_a (w : World) (v : Value) (p : Pg) (h : IsP w v p) (ht : Tabs w) (hA : ArgsAt w) (hn : p.code.length ≤ maxLen) (hm : p.pipes.length ≤ maxLen) (hn2 : p.code.length * 24 ≤ 140737488355328) (hm2 : p.pipes.length * 8 ≤ 140737488355328) (pc : Int) (r : Nat → Int) (fuel : Int) (hv : ¬ (2000 < p.code.length ∨ 2000 < p.pipes.length)) (F0 F1 : Int) (hF : checkF p = (F0, F1)) (hF0 : ¬ F0 = 0) :
    Calls Tryd.prog 3 #[v, .int .i64 pc, rv r, .int .i64 fuel] w fun e w' => e = .returned (.bool true) ∧ Below w.heap.size w w' := by
  obtain ⟨a, c, b, d, rfl, hc, hp⟩ := h.form
  obtain ⟨W0, e0, hB, k0, k1⟩ := two_new w (.cells #[.slice a p.code.length c, .int .i64 p.cells, .slice b p.pipes.length d, .int .i64 p.locks, .int .i64 p.groups] 25) (.cells #[.int .i64 (r 0), .int .i64 (r 1), .int .i64 (r 2), .int .i64 (r 3), .int .i64 (r 4), .int .i64 (r 5), .int .i64 (r 6), .int .i64 (r 7)] 26)
  have HX := hide hB; have HE := hide e0; have HK := hide k0; have HR : Hid (W0.heap[w.heap.size + 1]? = some (.cells (rvA r) 26 (0, 0))) := k1
  have HV := hide fun W (hW : Below w.heap.size w W) => vast_any W _ p (h.below hW) hn hm
  have HBG := hide fun W (hW : Below w.heap.size w W) => begun_any W (ht.below hW)
  have HOP := hide fun W (hW : Below w.heap.size w W) => ownProgram_any W _ p (h.below hW) hn2 hm2
  have HPF := hide fun W (hW : Below w.heap.size w W) => pf_any W _ p (h.below hW) (hA.below hW)
  have HCK := hide fun W (hW : Below w.heap.size w W) v (hv : IsP W v p) => check_any W v p hv (ht.below hW) hn hm
  have HRN := hide fun W (hW : Below w.heap.size w W) v (hv : IsP W v p) => run_any W v p hv (ht.below hW) hn hm pc fuel r
  have HSM := hide fun W (hW : Below w.heap.size w W) v (hv : IsL KC W v p.code) => code_same W v _ p.code hv (hc.below hW) hn
  have HC0 := hide (hc.opens kc rfl)
  obtain ⟨n, en⟩ : ∃ n, p.code.length = n := ⟨_, rfl⟩
  obtain ⟨m, em⟩ : ∃ m, p.pipes.length = m := ⟨_, rfl⟩
  have HN := hide en; have HM := hide em
  rw [decide_eq_false hv] at HV
  have eR : runR p pc fuel r = (0, fun _ => 0, 0, (F0, F1)) := by
    have e1 : runFault p pc fuel = (F0, F1) := by unfold runFault; rw [if_pos (by rw [hF]; exact hF0), hF]
    unfold runR
    rw [e1, if_pos (by exact hF0)]
  rw [eR] at HRN
  rw [hF] at HPF HCK
  unfold runV rv rvA at HRN
  dsimp only at HRN
  unfold faultV at HPF HCK
  have hF' : (F0 == 0) = false := by simpa using hF0
  clear eR hF
  rw [en] at HE HK HV HOP HPF HSM HC0; rw [em] at HE HK HV HOP HPF; rw [en, em]
  clear hB e0 k0 k1 h hc hp ht hn hm hA hn2 hm2 hv en em
  unfold rv rvA
  go_enter Tryd.func3, Tryd.ntmps3
  go_upto_region 1 with fail
  rw [unhide HE]
  clear HE
  go_upto_region 3 with (go_at_call 7; refine (unhide HBG _ (unhide HX)).mono ?_; rintro e w1 ⟨rfl, b1⟩; have HX1 := hide ((unhide HX).trans (b1.mono (unhide HX).size)); have HK1 := hide (keep_below (unhide HK) b1); have HR1 := hide (keep_below (unhide HR) b1); clear b1 HX HK HR HBG)
  obtain ⟨⟨q0, q1, q2, q3, q4⟩, ql⟩ := block5 (unhide HK1)
  go_upto_region 5 with (go_at_call 8; refine (unhide HV _ (unhide HX1)).mono ?_; rintro e w2 ⟨rfl, b2⟩; have HX2 := hide ((unhide HX1).trans (b2.mono (unhide HX1).size)); have HK2 := hide (keep_below (unhide HK1) b2); have HR2 := hide (keep_below (unhide HR1) b2); clear b2 q0 q1 q2 q3 q4 HX1 HK1 HR1 HV)
  obtain ⟨⟨q0, q1, q2, q3, q4⟩, ql⟩ := block5 (unhide HK2)
  go_upto_region 6 with (go_at_call 9; refine (unhide HOP _ (unhide HX2)).mono ?_; rintro e w3 ⟨v3, rfl, hp3, b3⟩; have HX3 := hide ((unhide HX2).trans (b3.mono (unhide HX2).size)); have HK3 := hide (keep_below (unhide HK2) b3); have HR3 := hide (keep_below (unhide HR2) b3); obtain ⟨a3, c3, d3, e3, rfl, hc3, hq3⟩ := hp3.form; rw [unhide HN, unhide HM] at hp3 ⊢; rw [unhide HN] at hc3; have HPx3 := hide hp3; have HCx3 := hide hc3; clear b3 hp3 hc3 hq3 q0 q1 q2 q3 q4 HX2 HK2 HR2 HOP)
  obtain ⟨W4, e4, b4, z4⟩ := one_new w3 (.cells #[.slice a3 n c3, .int .i64 p.cells, .slice d3 m e3, .int .i64 p.locks, .int .i64 p.groups] 25)
  rw [e4]
  have HX4 := hide ((unhide HX3).trans (b4.mono (unhide HX3).size)); have HK4 := hide (keep_below (unhide HK3) b4); have HR4 := hide (keep_below (unhide HR3) b4)
  have HPx4 := hide ((unhide HPx3).below b4); have HCx4 := hide ((unhide HCx3).below b4); have HB4 := hide z4
  obtain ⟨Bx, eBx⟩ : ∃ X, w3.heap.size = X := ⟨_, rfl⟩
  rw [eBx] at HB4 ⊢
  clear e4 b4 z4 eBx HX3 HK3 HR3 HPx3 HCx3
  obtain ⟨⟨q0, q1, q2, q3, q4⟩, ql⟩ := block5 (unhide HB4)
  go_upto_region 7 with (go_at_call 10; refine (unhide HCK _ (unhide HX4) _ (unhide HPx4)).mono ?_; rintro e w5 ⟨rfl, b5⟩; have HX5 := hide ((unhide HX4).trans (b5.mono (unhide HX4).size)); have HK5 := hide (keep_below (unhide HK4) b5); have HR5 := hide (keep_below (unhide HR4) b5); have HB5 := hide (keep_below (unhide HB4) b5); have HPx5 := hide ((unhide HPx4).below b5); have HCx5 := hide ((unhide HCx4).below b5); clear b5 q0 q1 q2 q3 q4 HX4 HK4 HR4 HB4 HPx4 HCx4 HCK)
  obtain ⟨W6, e6, b6, z6⟩ := one_new w5 (.cells #[.int .i64 F0, .int .i64 F1] 31)
  rw [e6]
  have HX6 := hide ((unhide HX5).trans (b6.mono (unhide HX5).size)); have HK6 := hide (keep_below (unhide HK5) b6); have HR6 := hide (keep_below (unhide HR5) b6); have HB6 := hide (keep_below (unhide HB5) b6)
  have HPx6 := hide ((unhide HPx5).below b6); have HCx6 := hide ((unhide HCx5).below b6); have HD6 := hide z6
  obtain ⟨Bc, eBc⟩ : ∃ X, w5.heap.size = X := ⟨_, rfl⟩
  rw [eBc] at HD6 ⊢
  clear e6 b6 z6 eBc HX5 HK5 HR5 HB5 HPx5 HCx5
  obtain ⟨⟨q0, q1, q2, q3, q4⟩, ql⟩ := block5 (unhide HB6)
  obtain ⟨⟨s0, s1, s2, s3, s4, s5, s6, s7⟩, -, sl⟩ := reg_all (unhide HR6)
  go_upto_region 8 with (go_at_call 11; refine (unhide HRN _ (unhide HX6) _ (unhide HPx6)).mono ?_; rintro e w7 ⟨rfl, b7⟩; have HX7 := hide ((unhide HX6).trans (b7.mono (unhide HX6).size)); have HK7 := hide (keep_below (unhide HK6) b7); have HR7 := hide (keep_below (unhide HR6) b7); have HB7 := hide (keep_below (unhide HB6) b7); have HD7 := hide (keep_below (unhide HD6) b7); have HCx7 := hide ((unhide HCx6).below b7); clear b7 q0 q1 q2 q3 q4 s0 s1 s2 s3 s4 s5 s6 s7 HX6 HK6 HR6 HB6 HD6 HPx6 HCx6 HRN)
  obtain ⟨W8, e8, b8, z8, y8⟩ := two_new w7 (.cells #[.int .i64 0, .int .i64 0, .int .i64 0, .int .i64 0, .int .i64 0, .int .i64 0, .int .i64 0, .int .i64 0] 26) (.cells #[.int .i64 F0, .int .i64 F1] 31)
  rw [e8]
  have HX8 := hide ((unhide HX7).trans (b8.mono (unhide HX7).size)); have HK8 := hide (keep_below (unhide HK7) b8); have HR8 := hide (keep_below (unhide HR7) b8); have HB8 := hide (keep_below (unhide HB7) b8); have HD8 := hide (keep_below (unhide HD7) b8)
  have HCx8 := hide ((unhide HCx7).below b8)
  have HS8 : Hid (W8.heap[w7.heap.size]? = some (.cells (rvA fun _ => 0) 26 (0, 0))) := z8
  have HG8 := hide y8
  obtain ⟨Br, eBr⟩ : ∃ X, w7.heap.size = X := ⟨_, rfl⟩
  rw [eBr] at HS8 HG8 ⊢
  have HBR : Hid (w.heap.size + 1 < Br) := by rw [← eBr]; exact size_of (unhide HR7)
  clear e8 b8 z8 y8 eBr HX7 HK7 HR7 HB7 HD7 HCx7
  obtain ⟨⟨q0, q1, q2, q3, q4⟩, ql⟩ := block5 (unhide HK8)
  go_upto_region 9 with (go_at_call 12; refine (unhide HPF _ (unhide HX8)).mono ?_; rintro e w9 ⟨rfl, b9⟩; have HX9 := hide ((unhide HX8).trans (b9.mono (unhide HX8).size)); have HK9 := hide (keep_below (unhide HK8) b9); have HR9 := hide (keep_below (unhide HR8) b9); have HB9 := hide (keep_below (unhide HB8) b9); have HD9 := hide (keep_below (unhide HD8) b9); have HS9 := hide (keep_below (unhide HS8) b9); have HG9 := hide (keep_below (unhide HG8) b9); have HCx9 := hide ((unhide HCx8).below b9); clear b9 q0 q1 q2 q3 q4 HX8 HK8 HR8 HB8 HD8 HS8 HG8 HCx8 HPF)
  obtain ⟨Wa, ea, ba, za⟩ := one_new w9 (.cells #[.int .i64 F0, .int .i64 F1] 31)
  rw [ea]
  have HXa := hide ((unhide HX9).trans (ba.mono (unhide HX9).size)); have HKa := hide (keep_below (unhide HK9) ba); have HRa := hide (keep_below (unhide HR9) ba); have HBa := hide (keep_below (unhide HB9) ba); have HDa := hide (keep_below (unhide HD9) ba); have HSa := hide (keep_below (unhide HS9) ba); have HGa := hide (keep_below (unhide HG9) ba)
  have HCxa := hide ((unhide HCx9).below ba)
  have HWa := hide za
  obtain ⟨Bw, eBw⟩ : ∃ X, w9.heap.size = X := ⟨_, rfl⟩
  rw [eBw] at HWa ⊢
  have HBW : Hid (Br + 1 < Bw ∧ w.heap.size ≤ Bw) := ⟨by rw [← eBw]; exact size_of (unhide HG9), by rw [← eBw]; exact (unhide HX9).size⟩
  clear ea ba za eBw HX9 HK9 HR9 HB9 HD9 HS9 HG9 HCx9
  obtain ⟨⟨q0, q1, q2, q3, q4⟩, ql⟩ := block5 (unhide HKa)
  obtain ⟨⟨x0, x1, x2, x3, x4⟩, xl⟩ := block5 (unhide HBa)
  obtain ⟨d0, d1, -, -, dl⟩ := block2 (unhide HDa)
  obtain ⟨g0, g1, -, -, gl⟩ := block2 (unhide HGa)
  obtain ⟨u0, u1, uf0, uf1, ul⟩ := block2 (unhide HWa)
  go_upto_region 11 with (go_at_call 13; refine (unhide HSM _ (unhide HXa) _ (unhide HCxa)).mono ?_; rintro e wb ⟨rfl, bb⟩; have HXb := hide ((unhide HXa).trans (bb.mono (unhide HXa).size)); have HKb := hide (keep_below (unhide HKa) bb); have HRb := hide (keep_below (unhide HRa) bb); have HSb := hide (keep_below (unhide HSa) bb); have HGb := hide (keep_below (unhide HGa) bb); have HWb := hide (keep_below (unhide HWa) bb); clear bb q0 q1 q2 q3 q4 x0 x1 x2 x3 x4 d0 d1 g0 g1 u0 u1 uf0 uf1 HXa HKa HRa HBa HDa HSa HGa HWa HCxa HSM)
  obtain ⟨⟨q0, q1, q2, q3, q4⟩, ql⟩ := block5 (unhide HKb)
  obtain ⟨⟨s0, s1, s2, s3, s4, s5, s6, s7⟩, -, sl⟩ := reg_all (unhide HSb)
  obtain ⟨g0, g1, -, -, gl⟩ := block2 (unhide HGb)
  obtain ⟨u0, u1, uf0, uf1, ul⟩ := block2 (unhide HWb)
  have hreq : ∀ W, (Op.equalIn 10000 26 (.agg #[.int .i64 0, .int .i64 0, .int .i64 0, .int .i64 0, .int .i64 0, .int .i64 0, .int .i64 0, .int .i64 0]) (.agg #[.int .i64 0, .int .i64 0, .int .i64 0, .int .i64 0, .int .i64 0, .int .i64 0, .int .i64 0, .int .i64 0])).run Tryd.prog W = .ok true W := fun W => regs_same W (fun _ => 0)
  go_wp2_with fail
  go_ret
  exact ⟨rfl, unhide HXb⟩

theorem set2v {w : World} {R : Nat} {x y x' y' : Value} {t : TypeId} (h : w.heap[R]? = some (.cells #[x, y] t (0, 0))) : ((w.setCell ⟨R, 0, none⟩ x').setCell ⟨R, 1, none⟩ y').heap[R]? = some (.cells #[x', y'] t (0, 0)) := by
  simp [World.setCell, Array.getElem?_modify, h]
theorem keep_set2 {w : World} {k R : Nat} {o : Obj} {x' y' : Value} (h : w.heap[k]? = some o) (hk : k ≠ R) : ((w.setCell ⟨R, 0, none⟩ x').setCell ⟨R, 1, none⟩ y').heap[k]? = some o := keep_set (keep_set h hk) hk

set_option maxRecDepth 100000 in
set_option maxHeartbeats 2000000 in
theorem runs_b1 (w : World) (v : Value) (p : Pg) (h : IsP w v p) (ht : Tabs w) (hA : ArgsAt w) (hn : p.code.length ≤ maxLen) (hm : p.pipes.length ≤ maxLen) (hn2 : p.code.length * 24 ≤ 140737488355328) (hm2 : p.pipes.length * 8 ≤ 140737488355328) (pc : Int) (r : Nat → Int) (fuel : Int) (hv : ¬ (2000 < p.code.length ∨ 2000 < p.pipes.length)) (hF : checkF p = (0, 0)) (h1 : pc < 0) :
    Calls Tryd.prog 3 #[v, .int .i64 pc, rv r, .int .i64 fuel] w fun e w' => e = .returned (.bool true) ∧ Below w.heap.size w w' := by
  obtain ⟨a, c, b, d, rfl, hc, hp⟩ := h.form
  obtain ⟨W0, e0, hB, k0, k1⟩ := two_new w (.cells #[.slice a p.code.length c, .int .i64 p.cells, .slice b p.pipes.length d, .int .i64 p.locks, .int .i64 p.groups] 25) (.cells #[.int .i64 (r 0), .int .i64 (r 1), .int .i64 (r 2), .int .i64 (r 3), .int .i64 (r 4), .int .i64 (r 5), .int .i64 (r 6), .int .i64 (r 7)] 26)
  have HX := hide hB; have HE := hide e0; have HK := hide k0; have HR : Hid (W0.heap[w.heap.size + 1]? = some (.cells (rvA r) 26 (0, 0))) := k1
  have HV := hide fun W (hW : Below w.heap.size w W) => vast_any W _ p (h.below hW) hn hm
  have HBG := hide fun W (hW : Below w.heap.size w W) => begun_any W (ht.below hW)
  have HOP := hide fun W (hW : Below w.heap.size w W) => ownProgram_any W _ p (h.below hW) hn2 hm2
  have HPF := hide fun W (hW : Below w.heap.size w W) => pf_any W _ p (h.below hW) (hA.below hW)
  have HCK := hide fun W (hW : Below w.heap.size w W) v (hv : IsP W v p) => check_any W v p hv (ht.below hW) hn hm
  have HRN := hide fun W (hW : Below w.heap.size w W) v (hv : IsP W v p) => run_any W v p hv (ht.below hW) hn hm pc fuel r
  have HSM := hide fun W (hW : Below w.heap.size w W) v (hv : IsL KC W v p.code) => code_same W v _ p.code hv (hc.below hW) hn
  have HC0 := hide (hc.opens kc rfl)
  obtain ⟨n, en⟩ : ∃ n, p.code.length = n := ⟨_, rfl⟩
  obtain ⟨m, em⟩ : ∃ m, p.pipes.length = m := ⟨_, rfl⟩
  have HN := hide en; have HM := hide em
  rw [decide_eq_false hv] at HV
  have eR : runR p pc fuel r = (0, fun _ => 0, 0, (3, -1)) := by
    have e1 : runFault p pc fuel = (3, -1) := by unfold runFault; rw [if_neg (by rw [hF]; simp), if_neg (by omega)]
    unfold runR
    rw [e1, if_pos (by simp)]
  rw [eR] at HRN
  rw [hF] at HPF HCK
  unfold runV rv rvA at HRN
  dsimp only at HRN
  unfold faultV at HPF HCK
  clear eR hF
  rw [en] at HE HK HV HOP HPF HSM HC0; rw [em] at HE HK HV HOP HPF; rw [en, em]
  clear hB e0 k0 k1 h hc hp ht hn hm hA hn2 hm2 hv en em
  unfold rv rvA
  go_enter Tryd.func3, Tryd.ntmps3
  go_upto_region 1 with fail
  rw [unhide HE]
  clear HE
  go_upto_region 3 with (go_at_call 7; refine (unhide HBG _ (unhide HX)).mono ?_; rintro e w1 ⟨rfl, b1⟩; have HX1 := hide ((unhide HX).trans (b1.mono (unhide HX).size)); have HK1 := hide (keep_below (unhide HK) b1); have HR1 := hide (keep_below (unhide HR) b1); clear b1 HX HK HR HBG)
  obtain ⟨⟨q0, q1, q2, q3, q4⟩, ql⟩ := block5 (unhide HK1)
  go_upto_region 5 with (go_at_call 8; refine (unhide HV _ (unhide HX1)).mono ?_; rintro e w2 ⟨rfl, b2⟩; have HX2 := hide ((unhide HX1).trans (b2.mono (unhide HX1).size)); have HK2 := hide (keep_below (unhide HK1) b2); have HR2 := hide (keep_below (unhide HR1) b2); clear b2 q0 q1 q2 q3 q4 HX1 HK1 HR1 HV)
  obtain ⟨⟨q0, q1, q2, q3, q4⟩, ql⟩ := block5 (unhide HK2)
  go_upto_region 6 with (go_at_call 9; refine (unhide HOP _ (unhide HX2)).mono ?_; rintro e w3 ⟨v3, rfl, hp3, b3⟩; have HX3 := hide ((unhide HX2).trans (b3.mono (unhide HX2).size)); have HK3 := hide (keep_below (unhide HK2) b3); have HR3 := hide (keep_below (unhide HR2) b3); obtain ⟨a3, c3, d3, e3, rfl, hc3, hq3⟩ := hp3.form; rw [unhide HN, unhide HM] at hp3 ⊢; rw [unhide HN] at hc3; have HPx3 := hide hp3; have HCx3 := hide hc3; clear b3 hp3 hc3 hq3 q0 q1 q2 q3 q4 HX2 HK2 HR2 HOP)
  obtain ⟨W4, e4, b4, z4⟩ := one_new w3 (.cells #[.slice a3 n c3, .int .i64 p.cells, .slice d3 m e3, .int .i64 p.locks, .int .i64 p.groups] 25)
  rw [e4]
  have HX4 := hide ((unhide HX3).trans (b4.mono (unhide HX3).size)); have HK4 := hide (keep_below (unhide HK3) b4); have HR4 := hide (keep_below (unhide HR3) b4)
  have HPx4 := hide ((unhide HPx3).below b4); have HCx4 := hide ((unhide HCx3).below b4); have HB4 := hide z4
  obtain ⟨Bx, eBx⟩ : ∃ X, w3.heap.size = X := ⟨_, rfl⟩
  rw [eBx] at HB4 ⊢
  clear e4 b4 z4 eBx HX3 HK3 HR3 HPx3 HCx3
  obtain ⟨⟨q0, q1, q2, q3, q4⟩, ql⟩ := block5 (unhide HB4)
  go_upto_region 7 with (go_at_call 10; refine (unhide HCK _ (unhide HX4) _ (unhide HPx4)).mono ?_; rintro e w5 ⟨rfl, b5⟩; have HX5 := hide ((unhide HX4).trans (b5.mono (unhide HX4).size)); have HK5 := hide (keep_below (unhide HK4) b5); have HR5 := hide (keep_below (unhide HR4) b5); have HB5 := hide (keep_below (unhide HB4) b5); have HPx5 := hide ((unhide HPx4).below b5); have HCx5 := hide ((unhide HCx4).below b5); clear b5 q0 q1 q2 q3 q4 HX4 HK4 HR4 HB4 HPx4 HCx4 HCK)
  obtain ⟨W6, e6, b6, z6⟩ := one_new w5 (.cells #[.int .i64 0, .int .i64 0] 31)
  rw [e6]
  have HX6 := hide ((unhide HX5).trans (b6.mono (unhide HX5).size)); have HK6 := hide (keep_below (unhide HK5) b6); have HR6 := hide (keep_below (unhide HR5) b6); have HB6 := hide (keep_below (unhide HB5) b6)
  have HPx6 := hide ((unhide HPx5).below b6); have HCx6 := hide ((unhide HCx5).below b6); have HD6 := hide z6
  obtain ⟨Bc, eBc⟩ : ∃ X, w5.heap.size = X := ⟨_, rfl⟩
  rw [eBc] at HD6 ⊢
  clear e6 b6 z6 eBc HX5 HK5 HR5 HB5 HPx5 HCx5
  obtain ⟨⟨q0, q1, q2, q3, q4⟩, ql⟩ := block5 (unhide HB6)
  obtain ⟨⟨s0, s1, s2, s3, s4, s5, s6, s7⟩, -, sl⟩ := reg_all (unhide HR6)
  go_upto_region 8 with (go_at_call 11; refine (unhide HRN _ (unhide HX6) _ (unhide HPx6)).mono ?_; rintro e w7 ⟨rfl, b7⟩; have HX7 := hide ((unhide HX6).trans (b7.mono (unhide HX6).size)); have HK7 := hide (keep_below (unhide HK6) b7); have HR7 := hide (keep_below (unhide HR6) b7); have HB7 := hide (keep_below (unhide HB6) b7); have HD7 := hide (keep_below (unhide HD6) b7); have HCx7 := hide ((unhide HCx6).below b7); clear b7 q0 q1 q2 q3 q4 s0 s1 s2 s3 s4 s5 s6 s7 HX6 HK6 HR6 HB6 HD6 HPx6 HCx6 HRN)
  obtain ⟨W8, e8, b8, z8, y8⟩ := two_new w7 (.cells #[.int .i64 0, .int .i64 0, .int .i64 0, .int .i64 0, .int .i64 0, .int .i64 0, .int .i64 0, .int .i64 0] 26) (.cells #[.int .i64 3, .int .i64 (-1)] 31)
  rw [e8]
  have HX8 := hide ((unhide HX7).trans (b8.mono (unhide HX7).size)); have HK8 := hide (keep_below (unhide HK7) b8); have HR8 := hide (keep_below (unhide HR7) b8); have HB8 := hide (keep_below (unhide HB7) b8); have HD8 := hide (keep_below (unhide HD7) b8)
  have HCx8 := hide ((unhide HCx7).below b8)
  have HS8 : Hid (W8.heap[w7.heap.size]? = some (.cells (rvA fun _ => 0) 26 (0, 0))) := z8
  have HG8 := hide y8
  obtain ⟨Br, eBr⟩ : ∃ X, w7.heap.size = X := ⟨_, rfl⟩
  rw [eBr] at HS8 HG8 ⊢
  have HBR : Hid (w.heap.size + 1 < Br) := by rw [← eBr]; exact size_of (unhide HR7)
  clear e8 b8 z8 y8 eBr HX7 HK7 HR7 HB7 HD7 HCx7
  obtain ⟨⟨q0, q1, q2, q3, q4⟩, ql⟩ := block5 (unhide HK8)
  go_upto_region 9 with (go_at_call 12; refine (unhide HPF _ (unhide HX8)).mono ?_; rintro e w9 ⟨rfl, b9⟩; have HX9 := hide ((unhide HX8).trans (b9.mono (unhide HX8).size)); have HK9 := hide (keep_below (unhide HK8) b9); have HR9 := hide (keep_below (unhide HR8) b9); have HB9 := hide (keep_below (unhide HB8) b9); have HD9 := hide (keep_below (unhide HD8) b9); have HS9 := hide (keep_below (unhide HS8) b9); have HG9 := hide (keep_below (unhide HG8) b9); have HCx9 := hide ((unhide HCx8).below b9); clear b9 q0 q1 q2 q3 q4 HX8 HK8 HR8 HB8 HD8 HS8 HG8 HCx8 HPF)
  obtain ⟨Wa, ea, ba, za⟩ := one_new w9 (.cells #[.int .i64 0, .int .i64 0] 31)
  rw [ea]
  have HXa := hide ((unhide HX9).trans (ba.mono (unhide HX9).size)); have HKa := hide (keep_below (unhide HK9) ba); have HRa := hide (keep_below (unhide HR9) ba); have HBa := hide (keep_below (unhide HB9) ba); have HDa := hide (keep_below (unhide HD9) ba); have HSa := hide (keep_below (unhide HS9) ba); have HGa := hide (keep_below (unhide HG9) ba)
  have HCxa := hide ((unhide HCx9).below ba)
  have HWa := hide za
  obtain ⟨Bw, eBw⟩ : ∃ X, w9.heap.size = X := ⟨_, rfl⟩
  rw [eBw] at HWa ⊢
  have HBW : Hid (Br + 1 < Bw ∧ w.heap.size ≤ Bw) := ⟨by rw [← eBw]; exact size_of (unhide HG9), by rw [← eBw]; exact (unhide HX9).size⟩
  clear ea ba za eBw HX9 HK9 HR9 HB9 HD9 HS9 HG9 HCx9
  obtain ⟨⟨q0, q1, q2, q3, q4⟩, ql⟩ := block5 (unhide HKa)
  obtain ⟨⟨x0, x1, x2, x3, x4⟩, xl⟩ := block5 (unhide HBa)
  obtain ⟨d0, d1, -, -, dl⟩ := block2 (unhide HDa)
  obtain ⟨g0, g1, -, -, gl⟩ := block2 (unhide HGa)
  obtain ⟨u0, u1, uf0, uf1, ul⟩ := block2 (unhide HWa)
  go_upto_region 11 with (go_at_call 13; refine (unhide HSM _ (unhide HXa) _ (unhide HCxa)).mono ?_; rintro e wb ⟨rfl, bb⟩; have HXb := hide ((unhide HXa).trans (bb.mono (unhide HXa).size)); have HKb := hide (keep_below (unhide HKa) bb); have HRb := hide (keep_below (unhide HRa) bb); have HSb := hide (keep_below (unhide HSa) bb); have HGb := hide (keep_below (unhide HGa) bb); have HWb := hide (keep_below (unhide HWa) bb); clear bb q0 q1 q2 q3 q4 x0 x1 x2 x3 x4 d0 d1 g0 g1 u0 u1 uf0 uf1 HXa HKa HRa HBa HDa HSa HGa HWa HCxa HSM)
  obtain ⟨⟨q0, q1, q2, q3, q4⟩, ql⟩ := block5 (unhide HKb)
  obtain ⟨⟨s0, s1, s2, s3, s4, s5, s6, s7⟩, -, sl⟩ := reg_all (unhide HSb)
  obtain ⟨g0, g1, -, -, gl⟩ := block2 (unhide HGb)
  obtain ⟨u0, u1, uf0, uf1, ul⟩ := block2 (unhide HWb)
  have hreq : ∀ W, (Op.equalIn 10000 26 (.agg #[.int .i64 0, .int .i64 0, .int .i64 0, .int .i64 0, .int .i64 0, .int .i64 0, .int .i64 0, .int .i64 0]) (.agg #[.int .i64 0, .int .i64 0, .int .i64 0, .int .i64 0, .int .i64 0, .int .i64 0, .int .i64 0, .int .i64 0])).run Tryd.prog W = .ok true W := fun W => regs_same W (fun _ => 0)
  go_upto_region 13 with (go_at_call 14; refine (f_any _ _ _).mono ?_; rintro e wc ⟨rfl, bc⟩; have HXc := hide ((unhide HXb).trans (bc.mono (unhide HXb).size)); have HSc := hide (keep_below (unhide HSb) bc); have HGc := hide (keep_below (unhide HGb) bc); have HWc := hide (keep_below (unhide HWb) bc); clear bc q0 q1 q2 q3 q4 s0 s1 s2 s3 s4 s5 s6 s7 g0 g1 u0 u1 uf0 uf1; obtain ⟨u0, u1, uf0, uf1, ul⟩ := block2 (unhide HWc))
  have HXd := hide (below_set2 (unhide HXc) (unhide HBW).2 (.int .i64 3) (.int .i64 (-1)))
  have HWd := hide (set2v (x' := .int .i64 3) (y' := .int .i64 (-1)) (unhide HWc))
  have HGd := hide (keep_set2 (x' := .int .i64 3) (y' := .int .i64 (-1)) (unhide HGc) (show Br + 1 ≠ Bw by have := (unhide HBW).1; omega))
  have HSd := hide (keep_set2 (x' := .int .i64 3) (y' := .int .i64 (-1)) (unhide HSc) (show Br ≠ Bw by have := (unhide HBW).1; omega))
  obtain ⟨Wd, ed⟩ : ∃ X, (wc.setCell ⟨Bw, 0, none⟩ (.int .i64 3)).setCell ⟨Bw, 1, none⟩ (.int .i64 (-1)) = X := ⟨_, rfl⟩
  rw [ed] at HXd HWd HGd HSd ⊢
  clear ed u0 u1 uf0 uf1 ul
  obtain ⟨u0, u1, uf0, uf1, ul⟩ := block2 (unhide HWd)
  obtain ⟨g0, g1, -, -, gl⟩ := block2 (unhide HGd)
  obtain ⟨⟨s0, s1, s2, s3, s4, s5, s6, s7⟩, -, sl⟩ := reg_all (unhide HSd)
  go_wp2_with fail
  go_ret
  exact ⟨rfl, unhide HXd⟩

set_option maxRecDepth 100000 in
set_option maxHeartbeats 2000000 in
theorem runs_b2 (w : World) (v : Value) (p : Pg) (h : IsP w v p) (ht : Tabs w) (hA : ArgsAt w) (hn : p.code.length ≤ maxLen) (hm : p.pipes.length ≤ maxLen) (hn2 : p.code.length * 24 ≤ 140737488355328) (hm2 : p.pipes.length * 8 ≤ 140737488355328) (pc : Int) (r : Nat → Int) (fuel : Int) (hv : ¬ (2000 < p.code.length ∨ 2000 < p.pipes.length)) (hF : checkF p = (0, 0)) (h1 : ¬ pc < 0) (h2 : (p.code.length : Int) < pc) :
    Calls Tryd.prog 3 #[v, .int .i64 pc, rv r, .int .i64 fuel] w fun e w' => e = .returned (.bool true) ∧ Below w.heap.size w w' := by
  obtain ⟨a, c, b, d, rfl, hc, hp⟩ := h.form
  obtain ⟨W0, e0, hB, k0, k1⟩ := two_new w (.cells #[.slice a p.code.length c, .int .i64 p.cells, .slice b p.pipes.length d, .int .i64 p.locks, .int .i64 p.groups] 25) (.cells #[.int .i64 (r 0), .int .i64 (r 1), .int .i64 (r 2), .int .i64 (r 3), .int .i64 (r 4), .int .i64 (r 5), .int .i64 (r 6), .int .i64 (r 7)] 26)
  have HX := hide hB; have HE := hide e0; have HK := hide k0; have HR : Hid (W0.heap[w.heap.size + 1]? = some (.cells (rvA r) 26 (0, 0))) := k1
  have HV := hide fun W (hW : Below w.heap.size w W) => vast_any W _ p (h.below hW) hn hm
  have HBG := hide fun W (hW : Below w.heap.size w W) => begun_any W (ht.below hW)
  have HOP := hide fun W (hW : Below w.heap.size w W) => ownProgram_any W _ p (h.below hW) hn2 hm2
  have HPF := hide fun W (hW : Below w.heap.size w W) => pf_any W _ p (h.below hW) (hA.below hW)
  have HCK := hide fun W (hW : Below w.heap.size w W) v (hv : IsP W v p) => check_any W v p hv (ht.below hW) hn hm
  have HRN := hide fun W (hW : Below w.heap.size w W) v (hv : IsP W v p) => run_any W v p hv (ht.below hW) hn hm pc fuel r
  have HSM := hide fun W (hW : Below w.heap.size w W) v (hv : IsL KC W v p.code) => code_same W v _ p.code hv (hc.below hW) hn
  have HC0 := hide (hc.opens kc rfl)
  obtain ⟨n, en⟩ : ∃ n, p.code.length = n := ⟨_, rfl⟩
  obtain ⟨m, em⟩ : ∃ m, p.pipes.length = m := ⟨_, rfl⟩
  have HN := hide en; have HM := hide em
  rw [decide_eq_false hv] at HV
  have eR : runR p pc fuel r = (0, fun _ => 0, 0, (3, -1)) := by
    have e1 : runFault p pc fuel = (3, -1) := by unfold runFault; rw [if_neg (by rw [hF]; simp), if_neg (by omega)]
    unfold runR
    rw [e1, if_pos (by simp)]
  rw [eR] at HRN
  rw [hF] at HPF HCK
  unfold runV rv rvA at HRN
  dsimp only at HRN
  unfold faultV at HPF HCK
  clear eR hF
  rw [en] at HE HK HV HOP HPF HSM HC0 h2; rw [em] at HE HK HV HOP HPF; rw [en, em]
  clear hB e0 k0 k1 h hc hp ht hn hm hA hn2 hm2 hv en em
  unfold rv rvA
  go_enter Tryd.func3, Tryd.ntmps3
  go_upto_region 1 with fail
  rw [unhide HE]
  clear HE
  go_upto_region 3 with (go_at_call 7; refine (unhide HBG _ (unhide HX)).mono ?_; rintro e w1 ⟨rfl, b1⟩; have HX1 := hide ((unhide HX).trans (b1.mono (unhide HX).size)); have HK1 := hide (keep_below (unhide HK) b1); have HR1 := hide (keep_below (unhide HR) b1); clear b1 HX HK HR HBG)
  obtain ⟨⟨q0, q1, q2, q3, q4⟩, ql⟩ := block5 (unhide HK1)
  go_upto_region 5 with (go_at_call 8; refine (unhide HV _ (unhide HX1)).mono ?_; rintro e w2 ⟨rfl, b2⟩; have HX2 := hide ((unhide HX1).trans (b2.mono (unhide HX1).size)); have HK2 := hide (keep_below (unhide HK1) b2); have HR2 := hide (keep_below (unhide HR1) b2); clear b2 q0 q1 q2 q3 q4 HX1 HK1 HR1 HV)
  obtain ⟨⟨q0, q1, q2, q3, q4⟩, ql⟩ := block5 (unhide HK2)
  go_upto_region 6 with (go_at_call 9; refine (unhide HOP _ (unhide HX2)).mono ?_; rintro e w3 ⟨v3, rfl, hp3, b3⟩; have HX3 := hide ((unhide HX2).trans (b3.mono (unhide HX2).size)); have HK3 := hide (keep_below (unhide HK2) b3); have HR3 := hide (keep_below (unhide HR2) b3); obtain ⟨a3, c3, d3, e3, rfl, hc3, hq3⟩ := hp3.form; rw [unhide HN, unhide HM] at hp3 ⊢; rw [unhide HN] at hc3; have HPx3 := hide hp3; have HCx3 := hide hc3; clear b3 hp3 hc3 hq3 q0 q1 q2 q3 q4 HX2 HK2 HR2 HOP)
  obtain ⟨W4, e4, b4, z4⟩ := one_new w3 (.cells #[.slice a3 n c3, .int .i64 p.cells, .slice d3 m e3, .int .i64 p.locks, .int .i64 p.groups] 25)
  rw [e4]
  have HX4 := hide ((unhide HX3).trans (b4.mono (unhide HX3).size)); have HK4 := hide (keep_below (unhide HK3) b4); have HR4 := hide (keep_below (unhide HR3) b4)
  have HPx4 := hide ((unhide HPx3).below b4); have HCx4 := hide ((unhide HCx3).below b4); have HB4 := hide z4
  obtain ⟨Bx, eBx⟩ : ∃ X, w3.heap.size = X := ⟨_, rfl⟩
  rw [eBx] at HB4 ⊢
  clear e4 b4 z4 eBx HX3 HK3 HR3 HPx3 HCx3
  obtain ⟨⟨q0, q1, q2, q3, q4⟩, ql⟩ := block5 (unhide HB4)
  go_upto_region 7 with (go_at_call 10; refine (unhide HCK _ (unhide HX4) _ (unhide HPx4)).mono ?_; rintro e w5 ⟨rfl, b5⟩; have HX5 := hide ((unhide HX4).trans (b5.mono (unhide HX4).size)); have HK5 := hide (keep_below (unhide HK4) b5); have HR5 := hide (keep_below (unhide HR4) b5); have HB5 := hide (keep_below (unhide HB4) b5); have HPx5 := hide ((unhide HPx4).below b5); have HCx5 := hide ((unhide HCx4).below b5); clear b5 q0 q1 q2 q3 q4 HX4 HK4 HR4 HB4 HPx4 HCx4 HCK)
  obtain ⟨W6, e6, b6, z6⟩ := one_new w5 (.cells #[.int .i64 0, .int .i64 0] 31)
  rw [e6]
  have HX6 := hide ((unhide HX5).trans (b6.mono (unhide HX5).size)); have HK6 := hide (keep_below (unhide HK5) b6); have HR6 := hide (keep_below (unhide HR5) b6); have HB6 := hide (keep_below (unhide HB5) b6)
  have HPx6 := hide ((unhide HPx5).below b6); have HCx6 := hide ((unhide HCx5).below b6); have HD6 := hide z6
  obtain ⟨Bc, eBc⟩ : ∃ X, w5.heap.size = X := ⟨_, rfl⟩
  rw [eBc] at HD6 ⊢
  clear e6 b6 z6 eBc HX5 HK5 HR5 HB5 HPx5 HCx5
  obtain ⟨⟨q0, q1, q2, q3, q4⟩, ql⟩ := block5 (unhide HB6)
  obtain ⟨⟨s0, s1, s2, s3, s4, s5, s6, s7⟩, -, sl⟩ := reg_all (unhide HR6)
  go_upto_region 8 with (go_at_call 11; refine (unhide HRN _ (unhide HX6) _ (unhide HPx6)).mono ?_; rintro e w7 ⟨rfl, b7⟩; have HX7 := hide ((unhide HX6).trans (b7.mono (unhide HX6).size)); have HK7 := hide (keep_below (unhide HK6) b7); have HR7 := hide (keep_below (unhide HR6) b7); have HB7 := hide (keep_below (unhide HB6) b7); have HD7 := hide (keep_below (unhide HD6) b7); have HCx7 := hide ((unhide HCx6).below b7); clear b7 q0 q1 q2 q3 q4 s0 s1 s2 s3 s4 s5 s6 s7 HX6 HK6 HR6 HB6 HD6 HPx6 HCx6 HRN)
  obtain ⟨W8, e8, b8, z8, y8⟩ := two_new w7 (.cells #[.int .i64 0, .int .i64 0, .int .i64 0, .int .i64 0, .int .i64 0, .int .i64 0, .int .i64 0, .int .i64 0] 26) (.cells #[.int .i64 3, .int .i64 (-1)] 31)
  rw [e8]
  have HX8 := hide ((unhide HX7).trans (b8.mono (unhide HX7).size)); have HK8 := hide (keep_below (unhide HK7) b8); have HR8 := hide (keep_below (unhide HR7) b8); have HB8 := hide (keep_below (unhide HB7) b8); have HD8 := hide (keep_below (unhide HD7) b8)
  have HCx8 := hide ((unhide HCx7).below b8)
  have HS8 : Hid (W8.heap[w7.heap.size]? = some (.cells (rvA fun _ => 0) 26 (0, 0))) := z8
  have HG8 := hide y8
  obtain ⟨Br, eBr⟩ : ∃ X, w7.heap.size = X := ⟨_, rfl⟩
  rw [eBr] at HS8 HG8 ⊢
  have HBR : Hid (w.heap.size + 1 < Br) := by rw [← eBr]; exact size_of (unhide HR7)
  clear e8 b8 z8 y8 eBr HX7 HK7 HR7 HB7 HD7 HCx7
  obtain ⟨⟨q0, q1, q2, q3, q4⟩, ql⟩ := block5 (unhide HK8)
  go_upto_region 9 with (go_at_call 12; refine (unhide HPF _ (unhide HX8)).mono ?_; rintro e w9 ⟨rfl, b9⟩; have HX9 := hide ((unhide HX8).trans (b9.mono (unhide HX8).size)); have HK9 := hide (keep_below (unhide HK8) b9); have HR9 := hide (keep_below (unhide HR8) b9); have HB9 := hide (keep_below (unhide HB8) b9); have HD9 := hide (keep_below (unhide HD8) b9); have HS9 := hide (keep_below (unhide HS8) b9); have HG9 := hide (keep_below (unhide HG8) b9); have HCx9 := hide ((unhide HCx8).below b9); clear b9 q0 q1 q2 q3 q4 HX8 HK8 HR8 HB8 HD8 HS8 HG8 HCx8 HPF)
  obtain ⟨Wa, ea, ba, za⟩ := one_new w9 (.cells #[.int .i64 0, .int .i64 0] 31)
  rw [ea]
  have HXa := hide ((unhide HX9).trans (ba.mono (unhide HX9).size)); have HKa := hide (keep_below (unhide HK9) ba); have HRa := hide (keep_below (unhide HR9) ba); have HBa := hide (keep_below (unhide HB9) ba); have HDa := hide (keep_below (unhide HD9) ba); have HSa := hide (keep_below (unhide HS9) ba); have HGa := hide (keep_below (unhide HG9) ba)
  have HCxa := hide ((unhide HCx9).below ba)
  have HWa := hide za
  obtain ⟨Bw, eBw⟩ : ∃ X, w9.heap.size = X := ⟨_, rfl⟩
  rw [eBw] at HWa ⊢
  have HBW : Hid (Br + 1 < Bw ∧ w.heap.size ≤ Bw) := ⟨by rw [← eBw]; exact size_of (unhide HG9), by rw [← eBw]; exact (unhide HX9).size⟩
  clear ea ba za eBw HX9 HK9 HR9 HB9 HD9 HS9 HG9 HCx9
  obtain ⟨⟨q0, q1, q2, q3, q4⟩, ql⟩ := block5 (unhide HKa)
  obtain ⟨⟨x0, x1, x2, x3, x4⟩, xl⟩ := block5 (unhide HBa)
  obtain ⟨d0, d1, -, -, dl⟩ := block2 (unhide HDa)
  obtain ⟨g0, g1, -, -, gl⟩ := block2 (unhide HGa)
  obtain ⟨u0, u1, uf0, uf1, ul⟩ := block2 (unhide HWa)
  go_upto_region 11 with (go_at_call 13; refine (unhide HSM _ (unhide HXa) _ (unhide HCxa)).mono ?_; rintro e wb ⟨rfl, bb⟩; have HXb := hide ((unhide HXa).trans (bb.mono (unhide HXa).size)); have HKb := hide (keep_below (unhide HKa) bb); have HRb := hide (keep_below (unhide HRa) bb); have HSb := hide (keep_below (unhide HSa) bb); have HGb := hide (keep_below (unhide HGa) bb); have HWb := hide (keep_below (unhide HWa) bb); clear bb q0 q1 q2 q3 q4 x0 x1 x2 x3 x4 d0 d1 g0 g1 u0 u1 uf0 uf1 HXa HKa HRa HBa HDa HSa HGa HWa HCxa HSM)
  obtain ⟨⟨q0, q1, q2, q3, q4⟩, ql⟩ := block5 (unhide HKb)
  obtain ⟨⟨s0, s1, s2, s3, s4, s5, s6, s7⟩, -, sl⟩ := reg_all (unhide HSb)
  obtain ⟨g0, g1, -, -, gl⟩ := block2 (unhide HGb)
  obtain ⟨u0, u1, uf0, uf1, ul⟩ := block2 (unhide HWb)
  have hreq : ∀ W, (Op.equalIn 10000 26 (.agg #[.int .i64 0, .int .i64 0, .int .i64 0, .int .i64 0, .int .i64 0, .int .i64 0, .int .i64 0, .int .i64 0]) (.agg #[.int .i64 0, .int .i64 0, .int .i64 0, .int .i64 0, .int .i64 0, .int .i64 0, .int .i64 0, .int .i64 0])).run Tryd.prog W = .ok true W := fun W => regs_same W (fun _ => 0)
  go_upto_region 13 with (go_at_call 14; refine (f_any _ _ _).mono ?_; rintro e wc ⟨rfl, bc⟩; have HXc := hide ((unhide HXb).trans (bc.mono (unhide HXb).size)); have HSc := hide (keep_below (unhide HSb) bc); have HGc := hide (keep_below (unhide HGb) bc); have HWc := hide (keep_below (unhide HWb) bc); clear bc q0 q1 q2 q3 q4 s0 s1 s2 s3 s4 s5 s6 s7 g0 g1 u0 u1 uf0 uf1; obtain ⟨u0, u1, uf0, uf1, ul⟩ := block2 (unhide HWc))
  have HXd := hide (below_set2 (unhide HXc) (unhide HBW).2 (.int .i64 3) (.int .i64 (-1)))
  have HWd := hide (set2v (x' := .int .i64 3) (y' := .int .i64 (-1)) (unhide HWc))
  have HGd := hide (keep_set2 (x' := .int .i64 3) (y' := .int .i64 (-1)) (unhide HGc) (show Br + 1 ≠ Bw by have := (unhide HBW).1; omega))
  have HSd := hide (keep_set2 (x' := .int .i64 3) (y' := .int .i64 (-1)) (unhide HSc) (show Br ≠ Bw by have := (unhide HBW).1; omega))
  obtain ⟨Wd, ed⟩ : ∃ X, (wc.setCell ⟨Bw, 0, none⟩ (.int .i64 3)).setCell ⟨Bw, 1, none⟩ (.int .i64 (-1)) = X := ⟨_, rfl⟩
  rw [ed] at HXd HWd HGd HSd ⊢
  clear ed u0 u1 uf0 uf1 ul
  obtain ⟨u0, u1, uf0, uf1, ul⟩ := block2 (unhide HWd)
  obtain ⟨g0, g1, -, -, gl⟩ := block2 (unhide HGd)
  obtain ⟨⟨s0, s1, s2, s3, s4, s5, s6, s7⟩, -, sl⟩ := reg_all (unhide HSd)
  go_wp2_with fail
  go_ret
  exact ⟨rfl, unhide HXd⟩

set_option maxRecDepth 100000 in
set_option maxHeartbeats 2000000 in
theorem runs_b3 (w : World) (v : Value) (p : Pg) (h : IsP w v p) (ht : Tabs w) (hA : ArgsAt w) (hn : p.code.length ≤ maxLen) (hm : p.pipes.length ≤ maxLen) (hn2 : p.code.length * 24 ≤ 140737488355328) (hm2 : p.pipes.length * 8 ≤ 140737488355328) (pc : Int) (r : Nat → Int) (fuel : Int) (hv : ¬ (2000 < p.code.length ∨ 2000 < p.pipes.length)) (hF : checkF p = (0, 0)) (h1 : ¬ pc < 0) (h2 : ¬ (p.code.length : Int) < pc) (h3 : fuel < 0) :
    Calls Tryd.prog 3 #[v, .int .i64 pc, rv r, .int .i64 fuel] w fun e w' => e = .returned (.bool true) ∧ Below w.heap.size w w' := by
  obtain ⟨a, c, b, d, rfl, hc, hp⟩ := h.form
  obtain ⟨W0, e0, hB, k0, k1⟩ := two_new w (.cells #[.slice a p.code.length c, .int .i64 p.cells, .slice b p.pipes.length d, .int .i64 p.locks, .int .i64 p.groups] 25) (.cells #[.int .i64 (r 0), .int .i64 (r 1), .int .i64 (r 2), .int .i64 (r 3), .int .i64 (r 4), .int .i64 (r 5), .int .i64 (r 6), .int .i64 (r 7)] 26)
  have HX := hide hB; have HE := hide e0; have HK := hide k0; have HR : Hid (W0.heap[w.heap.size + 1]? = some (.cells (rvA r) 26 (0, 0))) := k1
  have HV := hide fun W (hW : Below w.heap.size w W) => vast_any W _ p (h.below hW) hn hm
  have HBG := hide fun W (hW : Below w.heap.size w W) => begun_any W (ht.below hW)
  have HOP := hide fun W (hW : Below w.heap.size w W) => ownProgram_any W _ p (h.below hW) hn2 hm2
  have HPF := hide fun W (hW : Below w.heap.size w W) => pf_any W _ p (h.below hW) (hA.below hW)
  have HCK := hide fun W (hW : Below w.heap.size w W) v (hv : IsP W v p) => check_any W v p hv (ht.below hW) hn hm
  have HRN := hide fun W (hW : Below w.heap.size w W) v (hv : IsP W v p) => run_any W v p hv (ht.below hW) hn hm pc fuel r
  have HSM := hide fun W (hW : Below w.heap.size w W) v (hv : IsL KC W v p.code) => code_same W v _ p.code hv (hc.below hW) hn
  have HC0 := hide (hc.opens kc rfl)
  obtain ⟨n, en⟩ : ∃ n, p.code.length = n := ⟨_, rfl⟩
  obtain ⟨m, em⟩ : ∃ m, p.pipes.length = m := ⟨_, rfl⟩
  have HN := hide en; have HM := hide em
  rw [decide_eq_false hv] at HV
  have eR : runR p pc fuel r = (0, fun _ => 0, 0, (3, -1)) := by
    have e1 : runFault p pc fuel = (3, -1) := by unfold runFault; rw [if_neg (by rw [hF]; simp), if_neg (by omega)]
    unfold runR
    rw [e1, if_pos (by simp)]
  rw [eR] at HRN
  rw [hF] at HPF HCK
  unfold runV rv rvA at HRN
  dsimp only at HRN
  unfold faultV at HPF HCK
  clear eR hF
  rw [en] at HE HK HV HOP HPF HSM HC0 h2; rw [em] at HE HK HV HOP HPF; rw [en, em]
  clear hB e0 k0 k1 h hc hp ht hn hm hA hn2 hm2 hv en em
  unfold rv rvA
  go_enter Tryd.func3, Tryd.ntmps3
  go_upto_region 1 with fail
  rw [unhide HE]
  clear HE
  go_upto_region 3 with (go_at_call 7; refine (unhide HBG _ (unhide HX)).mono ?_; rintro e w1 ⟨rfl, b1⟩; have HX1 := hide ((unhide HX).trans (b1.mono (unhide HX).size)); have HK1 := hide (keep_below (unhide HK) b1); have HR1 := hide (keep_below (unhide HR) b1); clear b1 HX HK HR HBG)
  obtain ⟨⟨q0, q1, q2, q3, q4⟩, ql⟩ := block5 (unhide HK1)
  go_upto_region 5 with (go_at_call 8; refine (unhide HV _ (unhide HX1)).mono ?_; rintro e w2 ⟨rfl, b2⟩; have HX2 := hide ((unhide HX1).trans (b2.mono (unhide HX1).size)); have HK2 := hide (keep_below (unhide HK1) b2); have HR2 := hide (keep_below (unhide HR1) b2); clear b2 q0 q1 q2 q3 q4 HX1 HK1 HR1 HV)
  obtain ⟨⟨q0, q1, q2, q3, q4⟩, ql⟩ := block5 (unhide HK2)
  go_upto_region 6 with (go_at_call 9; refine (unhide HOP _ (unhide HX2)).mono ?_; rintro e w3 ⟨v3, rfl, hp3, b3⟩; have HX3 := hide ((unhide HX2).trans (b3.mono (unhide HX2).size)); have HK3 := hide (keep_below (unhide HK2) b3); have HR3 := hide (keep_below (unhide HR2) b3); obtain ⟨a3, c3, d3, e3, rfl, hc3, hq3⟩ := hp3.form; rw [unhide HN, unhide HM] at hp3 ⊢; rw [unhide HN] at hc3; have HPx3 := hide hp3; have HCx3 := hide hc3; clear b3 hp3 hc3 hq3 q0 q1 q2 q3 q4 HX2 HK2 HR2 HOP)
  obtain ⟨W4, e4, b4, z4⟩ := one_new w3 (.cells #[.slice a3 n c3, .int .i64 p.cells, .slice d3 m e3, .int .i64 p.locks, .int .i64 p.groups] 25)
  rw [e4]
  have HX4 := hide ((unhide HX3).trans (b4.mono (unhide HX3).size)); have HK4 := hide (keep_below (unhide HK3) b4); have HR4 := hide (keep_below (unhide HR3) b4)
  have HPx4 := hide ((unhide HPx3).below b4); have HCx4 := hide ((unhide HCx3).below b4); have HB4 := hide z4
  obtain ⟨Bx, eBx⟩ : ∃ X, w3.heap.size = X := ⟨_, rfl⟩
  rw [eBx] at HB4 ⊢
  clear e4 b4 z4 eBx HX3 HK3 HR3 HPx3 HCx3
  obtain ⟨⟨q0, q1, q2, q3, q4⟩, ql⟩ := block5 (unhide HB4)
  go_upto_region 7 with (go_at_call 10; refine (unhide HCK _ (unhide HX4) _ (unhide HPx4)).mono ?_; rintro e w5 ⟨rfl, b5⟩; have HX5 := hide ((unhide HX4).trans (b5.mono (unhide HX4).size)); have HK5 := hide (keep_below (unhide HK4) b5); have HR5 := hide (keep_below (unhide HR4) b5); have HB5 := hide (keep_below (unhide HB4) b5); have HPx5 := hide ((unhide HPx4).below b5); have HCx5 := hide ((unhide HCx4).below b5); clear b5 q0 q1 q2 q3 q4 HX4 HK4 HR4 HB4 HPx4 HCx4 HCK)
  obtain ⟨W6, e6, b6, z6⟩ := one_new w5 (.cells #[.int .i64 0, .int .i64 0] 31)
  rw [e6]
  have HX6 := hide ((unhide HX5).trans (b6.mono (unhide HX5).size)); have HK6 := hide (keep_below (unhide HK5) b6); have HR6 := hide (keep_below (unhide HR5) b6); have HB6 := hide (keep_below (unhide HB5) b6)
  have HPx6 := hide ((unhide HPx5).below b6); have HCx6 := hide ((unhide HCx5).below b6); have HD6 := hide z6
  obtain ⟨Bc, eBc⟩ : ∃ X, w5.heap.size = X := ⟨_, rfl⟩
  rw [eBc] at HD6 ⊢
  clear e6 b6 z6 eBc HX5 HK5 HR5 HB5 HPx5 HCx5
  obtain ⟨⟨q0, q1, q2, q3, q4⟩, ql⟩ := block5 (unhide HB6)
  obtain ⟨⟨s0, s1, s2, s3, s4, s5, s6, s7⟩, -, sl⟩ := reg_all (unhide HR6)
  go_upto_region 8 with (go_at_call 11; refine (unhide HRN _ (unhide HX6) _ (unhide HPx6)).mono ?_; rintro e w7 ⟨rfl, b7⟩; have HX7 := hide ((unhide HX6).trans (b7.mono (unhide HX6).size)); have HK7 := hide (keep_below (unhide HK6) b7); have HR7 := hide (keep_below (unhide HR6) b7); have HB7 := hide (keep_below (unhide HB6) b7); have HD7 := hide (keep_below (unhide HD6) b7); have HCx7 := hide ((unhide HCx6).below b7); clear b7 q0 q1 q2 q3 q4 s0 s1 s2 s3 s4 s5 s6 s7 HX6 HK6 HR6 HB6 HD6 HPx6 HCx6 HRN)
  obtain ⟨W8, e8, b8, z8, y8⟩ := two_new w7 (.cells #[.int .i64 0, .int .i64 0, .int .i64 0, .int .i64 0, .int .i64 0, .int .i64 0, .int .i64 0, .int .i64 0] 26) (.cells #[.int .i64 3, .int .i64 (-1)] 31)
  rw [e8]
  have HX8 := hide ((unhide HX7).trans (b8.mono (unhide HX7).size)); have HK8 := hide (keep_below (unhide HK7) b8); have HR8 := hide (keep_below (unhide HR7) b8); have HB8 := hide (keep_below (unhide HB7) b8); have HD8 := hide (keep_below (unhide HD7) b8)
  have HCx8 := hide ((unhide HCx7).below b8)
  have HS8 : Hid (W8.heap[w7.heap.size]? = some (.cells (rvA fun _ => 0) 26 (0, 0))) := z8
  have HG8 := hide y8
  obtain ⟨Br, eBr⟩ : ∃ X, w7.heap.size = X := ⟨_, rfl⟩
  rw [eBr] at HS8 HG8 ⊢
  have HBR : Hid (w.heap.size + 1 < Br) := by rw [← eBr]; exact size_of (unhide HR7)
  clear e8 b8 z8 y8 eBr HX7 HK7 HR7 HB7 HD7 HCx7
  obtain ⟨⟨q0, q1, q2, q3, q4⟩, ql⟩ := block5 (unhide HK8)
  go_upto_region 9 with (go_at_call 12; refine (unhide HPF _ (unhide HX8)).mono ?_; rintro e w9 ⟨rfl, b9⟩; have HX9 := hide ((unhide HX8).trans (b9.mono (unhide HX8).size)); have HK9 := hide (keep_below (unhide HK8) b9); have HR9 := hide (keep_below (unhide HR8) b9); have HB9 := hide (keep_below (unhide HB8) b9); have HD9 := hide (keep_below (unhide HD8) b9); have HS9 := hide (keep_below (unhide HS8) b9); have HG9 := hide (keep_below (unhide HG8) b9); have HCx9 := hide ((unhide HCx8).below b9); clear b9 q0 q1 q2 q3 q4 HX8 HK8 HR8 HB8 HD8 HS8 HG8 HCx8 HPF)
  obtain ⟨Wa, ea, ba, za⟩ := one_new w9 (.cells #[.int .i64 0, .int .i64 0] 31)
  rw [ea]
  have HXa := hide ((unhide HX9).trans (ba.mono (unhide HX9).size)); have HKa := hide (keep_below (unhide HK9) ba); have HRa := hide (keep_below (unhide HR9) ba); have HBa := hide (keep_below (unhide HB9) ba); have HDa := hide (keep_below (unhide HD9) ba); have HSa := hide (keep_below (unhide HS9) ba); have HGa := hide (keep_below (unhide HG9) ba)
  have HCxa := hide ((unhide HCx9).below ba)
  have HWa := hide za
  obtain ⟨Bw, eBw⟩ : ∃ X, w9.heap.size = X := ⟨_, rfl⟩
  rw [eBw] at HWa ⊢
  have HBW : Hid (Br + 1 < Bw ∧ w.heap.size ≤ Bw) := ⟨by rw [← eBw]; exact size_of (unhide HG9), by rw [← eBw]; exact (unhide HX9).size⟩
  clear ea ba za eBw HX9 HK9 HR9 HB9 HD9 HS9 HG9 HCx9
  obtain ⟨⟨q0, q1, q2, q3, q4⟩, ql⟩ := block5 (unhide HKa)
  obtain ⟨⟨x0, x1, x2, x3, x4⟩, xl⟩ := block5 (unhide HBa)
  obtain ⟨d0, d1, -, -, dl⟩ := block2 (unhide HDa)
  obtain ⟨g0, g1, -, -, gl⟩ := block2 (unhide HGa)
  obtain ⟨u0, u1, uf0, uf1, ul⟩ := block2 (unhide HWa)
  go_upto_region 11 with (go_at_call 13; refine (unhide HSM _ (unhide HXa) _ (unhide HCxa)).mono ?_; rintro e wb ⟨rfl, bb⟩; have HXb := hide ((unhide HXa).trans (bb.mono (unhide HXa).size)); have HKb := hide (keep_below (unhide HKa) bb); have HRb := hide (keep_below (unhide HRa) bb); have HSb := hide (keep_below (unhide HSa) bb); have HGb := hide (keep_below (unhide HGa) bb); have HWb := hide (keep_below (unhide HWa) bb); clear bb q0 q1 q2 q3 q4 x0 x1 x2 x3 x4 d0 d1 g0 g1 u0 u1 uf0 uf1 HXa HKa HRa HBa HDa HSa HGa HWa HCxa HSM)
  obtain ⟨⟨q0, q1, q2, q3, q4⟩, ql⟩ := block5 (unhide HKb)
  obtain ⟨⟨s0, s1, s2, s3, s4, s5, s6, s7⟩, -, sl⟩ := reg_all (unhide HSb)
  obtain ⟨g0, g1, -, -, gl⟩ := block2 (unhide HGb)
  obtain ⟨u0, u1, uf0, uf1, ul⟩ := block2 (unhide HWb)
  have hreq : ∀ W, (Op.equalIn 10000 26 (.agg #[.int .i64 0, .int .i64 0, .int .i64 0, .int .i64 0, .int .i64 0, .int .i64 0, .int .i64 0, .int .i64 0]) (.agg #[.int .i64 0, .int .i64 0, .int .i64 0, .int .i64 0, .int .i64 0, .int .i64 0, .int .i64 0, .int .i64 0])).run Tryd.prog W = .ok true W := fun W => regs_same W (fun _ => 0)
  go_upto_region 13 with (go_at_call 14; refine (f_any _ _ _).mono ?_; rintro e wc ⟨rfl, bc⟩; have HXc := hide ((unhide HXb).trans (bc.mono (unhide HXb).size)); have HSc := hide (keep_below (unhide HSb) bc); have HGc := hide (keep_below (unhide HGb) bc); have HWc := hide (keep_below (unhide HWb) bc); clear bc q0 q1 q2 q3 q4 s0 s1 s2 s3 s4 s5 s6 s7 g0 g1 u0 u1 uf0 uf1; obtain ⟨u0, u1, uf0, uf1, ul⟩ := block2 (unhide HWc))
  have HXd := hide (below_set2 (unhide HXc) (unhide HBW).2 (.int .i64 3) (.int .i64 (-1)))
  have HWd := hide (set2v (x' := .int .i64 3) (y' := .int .i64 (-1)) (unhide HWc))
  have HGd := hide (keep_set2 (x' := .int .i64 3) (y' := .int .i64 (-1)) (unhide HGc) (show Br + 1 ≠ Bw by have := (unhide HBW).1; omega))
  have HSd := hide (keep_set2 (x' := .int .i64 3) (y' := .int .i64 (-1)) (unhide HSc) (show Br ≠ Bw by have := (unhide HBW).1; omega))
  obtain ⟨Wd, ed⟩ : ∃ X, (wc.setCell ⟨Bw, 0, none⟩ (.int .i64 3)).setCell ⟨Bw, 1, none⟩ (.int .i64 (-1)) = X := ⟨_, rfl⟩
  rw [ed] at HXd HWd HGd HSd ⊢
  clear ed u0 u1 uf0 uf1 ul
  obtain ⟨u0, u1, uf0, uf1, ul⟩ := block2 (unhide HWd)
  obtain ⟨g0, g1, -, -, gl⟩ := block2 (unhide HGd)
  obtain ⟨⟨s0, s1, s2, s3, s4, s5, s6, s7⟩, -, sl⟩ := reg_all (unhide HSd)
  go_wp2_with fail
  go_ret
  exact ⟨rfl, unhide HXd⟩

set_option maxRecDepth 100000 in
set_option maxHeartbeats 2000000 in
theorem runs_b4 (w : World) (v : Value) (p : Pg) (h : IsP w v p) (ht : Tabs w) (hA : ArgsAt w) (hn : p.code.length ≤ maxLen) (hm : p.pipes.length ≤ maxLen) (hn2 : p.code.length * 24 ≤ 140737488355328) (hm2 : p.pipes.length * 8 ≤ 140737488355328) (pc : Int) (r : Nat → Int) (fuel : Int) (hv : ¬ (2000 < p.code.length ∨ 2000 < p.pipes.length)) (hF : checkF p = (0, 0)) (h1 : ¬ pc < 0) (h2 : ¬ (p.code.length : Int) < pc) (h3 : ¬ fuel < 0) (h4 : 5000 < fuel) :
    Calls Tryd.prog 3 #[v, .int .i64 pc, rv r, .int .i64 fuel] w fun e w' => e = .returned (.bool true) ∧ Below w.heap.size w w' := by
  obtain ⟨a, c, b, d, rfl, hc, hp⟩ := h.form
  obtain ⟨W0, e0, hB, k0, k1⟩ := two_new w (.cells #[.slice a p.code.length c, .int .i64 p.cells, .slice b p.pipes.length d, .int .i64 p.locks, .int .i64 p.groups] 25) (.cells #[.int .i64 (r 0), .int .i64 (r 1), .int .i64 (r 2), .int .i64 (r 3), .int .i64 (r 4), .int .i64 (r 5), .int .i64 (r 6), .int .i64 (r 7)] 26)
  have HX := hide hB; have HE := hide e0; have HK := hide k0; have HR : Hid (W0.heap[w.heap.size + 1]? = some (.cells (rvA r) 26 (0, 0))) := k1
  have HV := hide fun W (hW : Below w.heap.size w W) => vast_any W _ p (h.below hW) hn hm
  have HBG := hide fun W (hW : Below w.heap.size w W) => begun_any W (ht.below hW)
  have HOP := hide fun W (hW : Below w.heap.size w W) => ownProgram_any W _ p (h.below hW) hn2 hm2
  have HPF := hide fun W (hW : Below w.heap.size w W) => pf_any W _ p (h.below hW) (hA.below hW)
  have HCK := hide fun W (hW : Below w.heap.size w W) v (hv : IsP W v p) => check_any W v p hv (ht.below hW) hn hm
  have HRN := hide fun W (hW : Below w.heap.size w W) v (hv : IsP W v p) => run_any W v p hv (ht.below hW) hn hm pc fuel r
  have HSM := hide fun W (hW : Below w.heap.size w W) v (hv : IsL KC W v p.code) => code_same W v _ p.code hv (hc.below hW) hn
  have HC0 := hide (hc.opens kc rfl)
  obtain ⟨n, en⟩ : ∃ n, p.code.length = n := ⟨_, rfl⟩
  obtain ⟨m, em⟩ : ∃ m, p.pipes.length = m := ⟨_, rfl⟩
  have HN := hide en; have HM := hide em
  rw [decide_eq_false hv] at HV
  have eR : runR p pc fuel r = (0, fun _ => 0, 0, (3, -1)) := by
    have e1 : runFault p pc fuel = (3, -1) := by unfold runFault; rw [if_neg (by rw [hF]; simp), if_neg (by omega)]
    unfold runR
    rw [e1, if_pos (by simp)]
  rw [eR] at HRN
  rw [hF] at HPF HCK
  unfold runV rv rvA at HRN
  dsimp only at HRN
  unfold faultV at HPF HCK
  clear eR hF
  rw [en] at HE HK HV HOP HPF HSM HC0 h2; rw [em] at HE HK HV HOP HPF; rw [en, em]
  clear hB e0 k0 k1 h hc hp ht hn hm hA hn2 hm2 hv en em
  unfold rv rvA
  go_enter Tryd.func3, Tryd.ntmps3
  go_upto_region 1 with fail
  rw [unhide HE]
  clear HE
  go_upto_region 3 with (go_at_call 7; refine (unhide HBG _ (unhide HX)).mono ?_; rintro e w1 ⟨rfl, b1⟩; have HX1 := hide ((unhide HX).trans (b1.mono (unhide HX).size)); have HK1 := hide (keep_below (unhide HK) b1); have HR1 := hide (keep_below (unhide HR) b1); clear b1 HX HK HR HBG)
  obtain ⟨⟨q0, q1, q2, q3, q4⟩, ql⟩ := block5 (unhide HK1)
  go_upto_region 5 with (go_at_call 8; refine (unhide HV _ (unhide HX1)).mono ?_; rintro e w2 ⟨rfl, b2⟩; have HX2 := hide ((unhide HX1).trans (b2.mono (unhide HX1).size)); have HK2 := hide (keep_below (unhide HK1) b2); have HR2 := hide (keep_below (unhide HR1) b2); clear b2 q0 q1 q2 q3 q4 HX1 HK1 HR1 HV)
  obtain ⟨⟨q0, q1, q2, q3, q4⟩, ql⟩ := block5 (unhide HK2)
  go_upto_region 6 with (go_at_call 9; refine (unhide HOP _ (unhide HX2)).mono ?_; rintro e w3 ⟨v3, rfl, hp3, b3⟩; have HX3 := hide ((unhide HX2).trans (b3.mono (unhide HX2).size)); have HK3 := hide (keep_below (unhide HK2) b3); have HR3 := hide (keep_below (unhide HR2) b3); obtain ⟨a3, c3, d3, e3, rfl, hc3, hq3⟩ := hp3.form; rw [unhide HN, unhide HM] at hp3 ⊢; rw [unhide HN] at hc3; have HPx3 := hide hp3; have HCx3 := hide hc3; clear b3 hp3 hc3 hq3 q0 q1 q2 q3 q4 HX2 HK2 HR2 HOP)
  obtain ⟨W4, e4, b4, z4⟩ := one_new w3 (.cells #[.slice a3 n c3, .int .i64 p.cells, .slice d3 m e3, .int .i64 p.locks, .int .i64 p.groups] 25)
  rw [e4]
  have HX4 := hide ((unhide HX3).trans (b4.mono (unhide HX3).size)); have HK4 := hide (keep_below (unhide HK3) b4); have HR4 := hide (keep_below (unhide HR3) b4)
  have HPx4 := hide ((unhide HPx3).below b4); have HCx4 := hide ((unhide HCx3).below b4); have HB4 := hide z4
  obtain ⟨Bx, eBx⟩ : ∃ X, w3.heap.size = X := ⟨_, rfl⟩
  rw [eBx] at HB4 ⊢
  clear e4 b4 z4 eBx HX3 HK3 HR3 HPx3 HCx3
  obtain ⟨⟨q0, q1, q2, q3, q4⟩, ql⟩ := block5 (unhide HB4)
  go_upto_region 7 with (go_at_call 10; refine (unhide HCK _ (unhide HX4) _ (unhide HPx4)).mono ?_; rintro e w5 ⟨rfl, b5⟩; have HX5 := hide ((unhide HX4).trans (b5.mono (unhide HX4).size)); have HK5 := hide (keep_below (unhide HK4) b5); have HR5 := hide (keep_below (unhide HR4) b5); have HB5 := hide (keep_below (unhide HB4) b5); have HPx5 := hide ((unhide HPx4).below b5); have HCx5 := hide ((unhide HCx4).below b5); clear b5 q0 q1 q2 q3 q4 HX4 HK4 HR4 HB4 HPx4 HCx4 HCK)
  obtain ⟨W6, e6, b6, z6⟩ := one_new w5 (.cells #[.int .i64 0, .int .i64 0] 31)
  rw [e6]
  have HX6 := hide ((unhide HX5).trans (b6.mono (unhide HX5).size)); have HK6 := hide (keep_below (unhide HK5) b6); have HR6 := hide (keep_below (unhide HR5) b6); have HB6 := hide (keep_below (unhide HB5) b6)
  have HPx6 := hide ((unhide HPx5).below b6); have HCx6 := hide ((unhide HCx5).below b6); have HD6 := hide z6
  obtain ⟨Bc, eBc⟩ : ∃ X, w5.heap.size = X := ⟨_, rfl⟩
  rw [eBc] at HD6 ⊢
  clear e6 b6 z6 eBc HX5 HK5 HR5 HB5 HPx5 HCx5
  obtain ⟨⟨q0, q1, q2, q3, q4⟩, ql⟩ := block5 (unhide HB6)
  obtain ⟨⟨s0, s1, s2, s3, s4, s5, s6, s7⟩, -, sl⟩ := reg_all (unhide HR6)
  go_upto_region 8 with (go_at_call 11; refine (unhide HRN _ (unhide HX6) _ (unhide HPx6)).mono ?_; rintro e w7 ⟨rfl, b7⟩; have HX7 := hide ((unhide HX6).trans (b7.mono (unhide HX6).size)); have HK7 := hide (keep_below (unhide HK6) b7); have HR7 := hide (keep_below (unhide HR6) b7); have HB7 := hide (keep_below (unhide HB6) b7); have HD7 := hide (keep_below (unhide HD6) b7); have HCx7 := hide ((unhide HCx6).below b7); clear b7 q0 q1 q2 q3 q4 s0 s1 s2 s3 s4 s5 s6 s7 HX6 HK6 HR6 HB6 HD6 HPx6 HCx6 HRN)
  obtain ⟨W8, e8, b8, z8, y8⟩ := two_new w7 (.cells #[.int .i64 0, .int .i64 0, .int .i64 0, .int .i64 0, .int .i64 0, .int .i64 0, .int .i64 0, .int .i64 0] 26) (.cells #[.int .i64 3, .int .i64 (-1)] 31)
  rw [e8]
  have HX8 := hide ((unhide HX7).trans (b8.mono (unhide HX7).size)); have HK8 := hide (keep_below (unhide HK7) b8); have HR8 := hide (keep_below (unhide HR7) b8); have HB8 := hide (keep_below (unhide HB7) b8); have HD8 := hide (keep_below (unhide HD7) b8)
  have HCx8 := hide ((unhide HCx7).below b8)
  have HS8 : Hid (W8.heap[w7.heap.size]? = some (.cells (rvA fun _ => 0) 26 (0, 0))) := z8
  have HG8 := hide y8
  obtain ⟨Br, eBr⟩ : ∃ X, w7.heap.size = X := ⟨_, rfl⟩
  rw [eBr] at HS8 HG8 ⊢
  have HBR : Hid (w.heap.size + 1 < Br) := by rw [← eBr]; exact size_of (unhide HR7)
  clear e8 b8 z8 y8 eBr HX7 HK7 HR7 HB7 HD7 HCx7
  obtain ⟨⟨q0, q1, q2, q3, q4⟩, ql⟩ := block5 (unhide HK8)
  go_upto_region 9 with (go_at_call 12; refine (unhide HPF _ (unhide HX8)).mono ?_; rintro e w9 ⟨rfl, b9⟩; have HX9 := hide ((unhide HX8).trans (b9.mono (unhide HX8).size)); have HK9 := hide (keep_below (unhide HK8) b9); have HR9 := hide (keep_below (unhide HR8) b9); have HB9 := hide (keep_below (unhide HB8) b9); have HD9 := hide (keep_below (unhide HD8) b9); have HS9 := hide (keep_below (unhide HS8) b9); have HG9 := hide (keep_below (unhide HG8) b9); have HCx9 := hide ((unhide HCx8).below b9); clear b9 q0 q1 q2 q3 q4 HX8 HK8 HR8 HB8 HD8 HS8 HG8 HCx8 HPF)
  obtain ⟨Wa, ea, ba, za⟩ := one_new w9 (.cells #[.int .i64 0, .int .i64 0] 31)
  rw [ea]
  have HXa := hide ((unhide HX9).trans (ba.mono (unhide HX9).size)); have HKa := hide (keep_below (unhide HK9) ba); have HRa := hide (keep_below (unhide HR9) ba); have HBa := hide (keep_below (unhide HB9) ba); have HDa := hide (keep_below (unhide HD9) ba); have HSa := hide (keep_below (unhide HS9) ba); have HGa := hide (keep_below (unhide HG9) ba)
  have HCxa := hide ((unhide HCx9).below ba)
  have HWa := hide za
  obtain ⟨Bw, eBw⟩ : ∃ X, w9.heap.size = X := ⟨_, rfl⟩
  rw [eBw] at HWa ⊢
  have HBW : Hid (Br + 1 < Bw ∧ w.heap.size ≤ Bw) := ⟨by rw [← eBw]; exact size_of (unhide HG9), by rw [← eBw]; exact (unhide HX9).size⟩
  clear ea ba za eBw HX9 HK9 HR9 HB9 HD9 HS9 HG9 HCx9
  obtain ⟨⟨q0, q1, q2, q3, q4⟩, ql⟩ := block5 (unhide HKa)
  obtain ⟨⟨x0, x1, x2, x3, x4⟩, xl⟩ := block5 (unhide HBa)
  obtain ⟨d0, d1, -, -, dl⟩ := block2 (unhide HDa)
  obtain ⟨g0, g1, -, -, gl⟩ := block2 (unhide HGa)
  obtain ⟨u0, u1, uf0, uf1, ul⟩ := block2 (unhide HWa)
  go_upto_region 11 with (go_at_call 13; refine (unhide HSM _ (unhide HXa) _ (unhide HCxa)).mono ?_; rintro e wb ⟨rfl, bb⟩; have HXb := hide ((unhide HXa).trans (bb.mono (unhide HXa).size)); have HKb := hide (keep_below (unhide HKa) bb); have HRb := hide (keep_below (unhide HRa) bb); have HSb := hide (keep_below (unhide HSa) bb); have HGb := hide (keep_below (unhide HGa) bb); have HWb := hide (keep_below (unhide HWa) bb); clear bb q0 q1 q2 q3 q4 x0 x1 x2 x3 x4 d0 d1 g0 g1 u0 u1 uf0 uf1 HXa HKa HRa HBa HDa HSa HGa HWa HCxa HSM)
  obtain ⟨⟨q0, q1, q2, q3, q4⟩, ql⟩ := block5 (unhide HKb)
  obtain ⟨⟨s0, s1, s2, s3, s4, s5, s6, s7⟩, -, sl⟩ := reg_all (unhide HSb)
  obtain ⟨g0, g1, -, -, gl⟩ := block2 (unhide HGb)
  obtain ⟨u0, u1, uf0, uf1, ul⟩ := block2 (unhide HWb)
  have hreq : ∀ W, (Op.equalIn 10000 26 (.agg #[.int .i64 0, .int .i64 0, .int .i64 0, .int .i64 0, .int .i64 0, .int .i64 0, .int .i64 0, .int .i64 0]) (.agg #[.int .i64 0, .int .i64 0, .int .i64 0, .int .i64 0, .int .i64 0, .int .i64 0, .int .i64 0, .int .i64 0])).run Tryd.prog W = .ok true W := fun W => regs_same W (fun _ => 0)
  go_upto_region 13 with (go_at_call 14; refine (f_any _ _ _).mono ?_; rintro e wc ⟨rfl, bc⟩; have HXc := hide ((unhide HXb).trans (bc.mono (unhide HXb).size)); have HSc := hide (keep_below (unhide HSb) bc); have HGc := hide (keep_below (unhide HGb) bc); have HWc := hide (keep_below (unhide HWb) bc); clear bc q0 q1 q2 q3 q4 s0 s1 s2 s3 s4 s5 s6 s7 g0 g1 u0 u1 uf0 uf1; obtain ⟨u0, u1, uf0, uf1, ul⟩ := block2 (unhide HWc))
  have HXd := hide (below_set2 (unhide HXc) (unhide HBW).2 (.int .i64 3) (.int .i64 (-1)))
  have HWd := hide (set2v (x' := .int .i64 3) (y' := .int .i64 (-1)) (unhide HWc))
  have HGd := hide (keep_set2 (x' := .int .i64 3) (y' := .int .i64 (-1)) (unhide HGc) (show Br + 1 ≠ Bw by have := (unhide HBW).1; omega))
  have HSd := hide (keep_set2 (x' := .int .i64 3) (y' := .int .i64 (-1)) (unhide HSc) (show Br ≠ Bw by have := (unhide HBW).1; omega))
  obtain ⟨Wd, ed⟩ : ∃ X, (wc.setCell ⟨Bw, 0, none⟩ (.int .i64 3)).setCell ⟨Bw, 1, none⟩ (.int .i64 (-1)) = X := ⟨_, rfl⟩
  rw [ed] at HXd HWd HGd HSd ⊢
  clear ed u0 u1 uf0 uf1 ul
  obtain ⟨u0, u1, uf0, uf1, ul⟩ := block2 (unhide HWd)
  obtain ⟨g0, g1, -, -, gl⟩ := block2 (unhide HGd)
  obtain ⟨⟨s0, s1, s2, s3, s4, s5, s6, s7⟩, -, sl⟩ := reg_all (unhide HSd)
  go_wp2_with fail
  go_ret
  exact ⟨rfl, unhide HXd⟩

/-- What holds in the statement's loop. -/
structure LawAt (w : World) (pv : Array Value) (Br : Nat) (R1 s : Nat → Int) (W : World) : Prop where
  below : Below w.heap.size w W
  prog : W.heap[w.heap.size]? = some (.cells pv 25 (0, 0))
  regs : W.heap[w.heap.size + 1]? = some (.cells (rvA s) 26 (0, 0))
  res : W.heap[Br]? = some (.cells (rvA R1) 26 (0, 0))
theorem LawAt.call {w W W' : World} {pv : Array Value} {Br : Nat} {R1 s : Nat → Int} (h : LawAt w pv Br R1 s W) (b : Below W.heap.size W W') : LawAt w pv Br R1 s W' :=
  ⟨h.below.trans (b.mono h.below.size), keep_below h.prog b, keep_below h.regs b, keep_below h.res b⟩
theorem LawAt.drew {w W : World} {pv : Array Value} {Br : Nat} {R1 s : Nat → Int} (h : LawAt w pv Br R1 s W) : LawAt w pv Br R1 s W.drew := ⟨h.below.drew, h.prog, h.regs, h.res⟩
theorem LawAt.put {w W : World} {pv : Array Value} {Br : Nat} {R1 s : Nat → Int} (h : LawAt w pv Br R1 s W) (hB : w.heap.size + 1 < Br) (r : Nat → Int) : ∃ W2, ((((((((W.setCell ⟨w.heap.size + 1, 0, none⟩ (.int .i64 (r 0))).setCell ⟨w.heap.size + 1, 1, none⟩ (.int .i64 (r 1))).setCell ⟨w.heap.size + 1, 2, none⟩ (.int .i64 (r 2))).setCell ⟨w.heap.size + 1, 3, none⟩ (.int .i64 (r 3))).setCell ⟨w.heap.size + 1, 4, none⟩ (.int .i64 (r 4))).setCell ⟨w.heap.size + 1, 5, none⟩ (.int .i64 (r 5))).setCell ⟨w.heap.size + 1, 6, none⟩ (.int .i64 (r 6))).setCell ⟨w.heap.size + 1, 7, none⟩ (.int .i64 (r 7))) = W2 ∧ LawAt w pv Br R1 r W2 := by
  obtain ⟨W2, e2, b2, y2⟩ := put8 r h.below h.regs (by omega)
  refine ⟨W2, e2, b2, ?_, y2, ?_⟩
  · rw [← e2]; exact keep_put8 r h.below h.prog (by omega)
  · rw [← e2]; exact keep_put8 r h.below h.res (by omega)

set_option maxRecDepth 100000 in
set_option maxHeartbeats 2000000 in
theorem runs_c (w : World) (v : Value) (p : Pg) (h : IsP w v p) (ht : Tabs w) (hA : ArgsAt w) (hn : p.code.length ≤ maxLen) (hm : p.pipes.length ≤ maxLen) (hn2 : p.code.length * 24 ≤ 140737488355328) (hm2 : p.pipes.length * 8 ≤ 140737488355328) (pc : Int) (r : Nat → Int) (fuel : Int) (hv : ¬ (2000 < p.code.length ∨ 2000 < p.pipes.length)) (hF : checkF p = (0, 0)) (q : Nat) (N : Nat) (ep : pc = q) (ef : fuel = N) (h2 : q ≤ p.code.length) (h4 : N ≤ 5000) (P1 : Int) (R1 : Nat → Int) (D1 : Nat) (hL : runL p N q r = (P1, R1, D1)) :
    Calls Tryd.prog 3 #[v, .int .i64 pc, rv r, .int .i64 fuel] w fun e w' => e = .returned (.bool true) ∧ Below w.heap.size w w' := by
  subst ep ef
  obtain ⟨a, c, b, d, rfl, hc, hp⟩ := h.form
  obtain ⟨W0, e0, hB, k0, k1⟩ := two_new w (.cells #[.slice a p.code.length c, .int .i64 p.cells, .slice b p.pipes.length d, .int .i64 p.locks, .int .i64 p.groups] 25) (.cells #[.int .i64 (r 0), .int .i64 (r 1), .int .i64 (r 2), .int .i64 (r 3), .int .i64 (r 4), .int .i64 (r 5), .int .i64 (r 6), .int .i64 (r 7)] 26)
  have HX := hide hB; have HE := hide e0; have HK := hide k0; have HR : Hid (W0.heap[w.heap.size + 1]? = some (.cells (rvA r) 26 (0, 0))) := k1
  have HV := hide fun W (hW : Below w.heap.size w W) => vast_any W _ p (h.below hW) hn hm
  have HBG := hide fun W (hW : Below w.heap.size w W) => begun_any W (ht.below hW)
  have HOP := hide fun W (hW : Below w.heap.size w W) => ownProgram_any W _ p (h.below hW) hn2 hm2
  have HPF := hide fun W (hW : Below w.heap.size w W) => pf_any W _ p (h.below hW) (hA.below hW)
  have HCK := hide fun W (hW : Below w.heap.size w W) v (hv : IsP W v p) => check_any W v p hv (ht.below hW) hn hm
  have HRN := hide fun W (hW : Below w.heap.size w W) v (hv : IsP W v p) => run_any W v p hv (ht.below hW) hn hm (q : Int) (N : Int) r
  have HSM := hide fun W (hW : Below w.heap.size w W) v (hv : IsL KC W v p.code) => code_same W v _ p.code hv (hc.below hW) hn
  have HC0 := hide (hc.opens kc rfl)
  obtain ⟨n, en⟩ : ∃ n, p.code.length = n := ⟨_, rfl⟩
  obtain ⟨m, em⟩ : ∃ m, p.pipes.length = m := ⟨_, rfl⟩
  have HN := hide en; have HM := hide em
  rw [decide_eq_false hv] at HV
  have eR : runR p q N r = (P1, R1, (D1 : Int), (0, 0)) := by
    rw [runR_ok' (by rw [hF]) (by omega) (by omega), Int.toNat_natCast, hL]
  rw [eR] at HRN
  rw [hF] at HPF HCK
  unfold runV rv rvA at HRN
  dsimp only at HRN
  unfold faultV at HPF HCK
  have HOK := hide (check_zero (p := p) (by rw [hF])).2.2.2.2
  have b1000 := (check_zero (p := p) (by rw [hF])).2.1
  have HI : Hid ((runL p (N - 0) (q : Nat) r).1 = P1 ∧ (runL p (N - 0) (q : Nat) r).2.1 = R1 ∧ (runL p (N - 0) (q : Nat) r).2.2 + 0 = D1) := by rw [Nat.sub_zero, hL]; exact ⟨rfl, rfl, rfl⟩
  clear eR hF hL
  rw [en] at HE HK HV HOP HPF HSM HC0 HOK h2 b1000; rw [em] at HE HK HV HOP HPF; rw [en, em]
  have i1 : ¬ (q : Int) < 0 := by omega
  have i2 : ¬ (n : Int) < (q : Int) := by omega
  have i3 : ¬ (N : Int) < 0 := by omega
  have i4 : ¬ (5000 : Int) < (N : Int) := by omega
  clear hB e0 k0 k1 h hc hp ht hn hm hA hn2 hm2 hv en em
  unfold rv rvA
  go_enter Tryd.func3, Tryd.ntmps3
  go_upto_region 1 with fail
  rw [unhide HE]
  clear HE
  go_upto_region 3 with (go_at_call 7; refine (unhide HBG _ (unhide HX)).mono ?_; rintro e w1 ⟨rfl, b1⟩; have HX1 := hide ((unhide HX).trans (b1.mono (unhide HX).size)); have HK1 := hide (keep_below (unhide HK) b1); have HR1 := hide (keep_below (unhide HR) b1); clear b1 HX HK HR HBG)
  obtain ⟨⟨q0, q1, q2, q3, q4⟩, ql⟩ := block5 (unhide HK1)
  go_upto_region 5 with (go_at_call 8; refine (unhide HV _ (unhide HX1)).mono ?_; rintro e w2 ⟨rfl, b2⟩; have HX2 := hide ((unhide HX1).trans (b2.mono (unhide HX1).size)); have HK2 := hide (keep_below (unhide HK1) b2); have HR2 := hide (keep_below (unhide HR1) b2); clear b2 q0 q1 q2 q3 q4 HX1 HK1 HR1 HV)
  obtain ⟨⟨q0, q1, q2, q3, q4⟩, ql⟩ := block5 (unhide HK2)
  go_upto_region 6 with (go_at_call 9; refine (unhide HOP _ (unhide HX2)).mono ?_; rintro e w3 ⟨v3, rfl, hp3, b3⟩; have HX3 := hide ((unhide HX2).trans (b3.mono (unhide HX2).size)); have HK3 := hide (keep_below (unhide HK2) b3); have HR3 := hide (keep_below (unhide HR2) b3); obtain ⟨a3, c3, d3, e3, rfl, hc3, hq3⟩ := hp3.form; rw [unhide HN, unhide HM] at hp3 ⊢; rw [unhide HN] at hc3; have HPx3 := hide hp3; have HCx3 := hide hc3; clear b3 hp3 hc3 hq3 q0 q1 q2 q3 q4 HX2 HK2 HR2 HOP)
  obtain ⟨W4, e4, b4, z4⟩ := one_new w3 (.cells #[.slice a3 n c3, .int .i64 p.cells, .slice d3 m e3, .int .i64 p.locks, .int .i64 p.groups] 25)
  rw [e4]
  have HX4 := hide ((unhide HX3).trans (b4.mono (unhide HX3).size)); have HK4 := hide (keep_below (unhide HK3) b4); have HR4 := hide (keep_below (unhide HR3) b4)
  have HPx4 := hide ((unhide HPx3).below b4); have HCx4 := hide ((unhide HCx3).below b4); have HB4 := hide z4
  obtain ⟨Bx, eBx⟩ : ∃ X, w3.heap.size = X := ⟨_, rfl⟩
  rw [eBx] at HB4 ⊢
  clear e4 b4 z4 eBx HX3 HK3 HR3 HPx3 HCx3
  obtain ⟨⟨q0, q1, q2, q3, q4⟩, ql⟩ := block5 (unhide HB4)
  go_upto_region 7 with (go_at_call 10; refine (unhide HCK _ (unhide HX4) _ (unhide HPx4)).mono ?_; rintro e w5 ⟨rfl, b5⟩; have HX5 := hide ((unhide HX4).trans (b5.mono (unhide HX4).size)); have HK5 := hide (keep_below (unhide HK4) b5); have HR5 := hide (keep_below (unhide HR4) b5); have HB5 := hide (keep_below (unhide HB4) b5); have HPx5 := hide ((unhide HPx4).below b5); have HCx5 := hide ((unhide HCx4).below b5); clear b5 q0 q1 q2 q3 q4 HX4 HK4 HR4 HB4 HPx4 HCx4 HCK)
  obtain ⟨W6, e6, b6, z6⟩ := one_new w5 (.cells #[.int .i64 0, .int .i64 0] 31)
  rw [e6]
  have HX6 := hide ((unhide HX5).trans (b6.mono (unhide HX5).size)); have HK6 := hide (keep_below (unhide HK5) b6); have HR6 := hide (keep_below (unhide HR5) b6); have HB6 := hide (keep_below (unhide HB5) b6)
  have HPx6 := hide ((unhide HPx5).below b6); have HCx6 := hide ((unhide HCx5).below b6); have HD6 := hide z6
  obtain ⟨Bc, eBc⟩ : ∃ X, w5.heap.size = X := ⟨_, rfl⟩
  rw [eBc] at HD6 ⊢
  clear e6 b6 z6 eBc HX5 HK5 HR5 HB5 HPx5 HCx5
  obtain ⟨⟨q0, q1, q2, q3, q4⟩, ql⟩ := block5 (unhide HB6)
  obtain ⟨⟨s0, s1, s2, s3, s4, s5, s6, s7⟩, -, sl⟩ := reg_all (unhide HR6)
  go_upto_region 8 with (go_at_call 11; refine (unhide HRN _ (unhide HX6) _ (unhide HPx6)).mono ?_; rintro e w7 ⟨rfl, b7⟩; have HX7 := hide ((unhide HX6).trans (b7.mono (unhide HX6).size)); have HK7 := hide (keep_below (unhide HK6) b7); have HR7 := hide (keep_below (unhide HR6) b7); have HB7 := hide (keep_below (unhide HB6) b7); have HD7 := hide (keep_below (unhide HD6) b7); have HCx7 := hide ((unhide HCx6).below b7); clear b7 q0 q1 q2 q3 q4 s0 s1 s2 s3 s4 s5 s6 s7 HX6 HK6 HR6 HB6 HD6 HPx6 HCx6 HRN)
  obtain ⟨W8, e8, b8, z8, y8⟩ := two_new w7 (.cells #[.int .i64 (R1 0), .int .i64 (R1 1), .int .i64 (R1 2), .int .i64 (R1 3), .int .i64 (R1 4), .int .i64 (R1 5), .int .i64 (R1 6), .int .i64 (R1 7)] 26) (.cells #[.int .i64 0, .int .i64 0] 31)
  rw [e8]
  have HX8 := hide ((unhide HX7).trans (b8.mono (unhide HX7).size)); have HK8 := hide (keep_below (unhide HK7) b8); have HR8 := hide (keep_below (unhide HR7) b8); have HB8 := hide (keep_below (unhide HB7) b8); have HD8 := hide (keep_below (unhide HD7) b8)
  have HCx8 := hide ((unhide HCx7).below b8)
  have HS8 : Hid (W8.heap[w7.heap.size]? = some (.cells (rvA R1) 26 (0, 0))) := z8
  have HG8 := hide y8
  obtain ⟨Br, eBr⟩ : ∃ X, w7.heap.size = X := ⟨_, rfl⟩
  rw [eBr] at HS8 HG8 ⊢
  have HBR : Hid (w.heap.size + 1 < Br) := by rw [← eBr]; exact size_of (unhide HR7)
  clear e8 b8 z8 y8 eBr HX7 HK7 HR7 HB7 HD7 HCx7
  obtain ⟨⟨q0, q1, q2, q3, q4⟩, ql⟩ := block5 (unhide HK8)
  go_upto_region 9 with (go_at_call 12; refine (unhide HPF _ (unhide HX8)).mono ?_; rintro e w9 ⟨rfl, b9⟩; have HX9 := hide ((unhide HX8).trans (b9.mono (unhide HX8).size)); have HK9 := hide (keep_below (unhide HK8) b9); have HR9 := hide (keep_below (unhide HR8) b9); have HB9 := hide (keep_below (unhide HB8) b9); have HD9 := hide (keep_below (unhide HD8) b9); have HS9 := hide (keep_below (unhide HS8) b9); have HG9 := hide (keep_below (unhide HG8) b9); have HCx9 := hide ((unhide HCx8).below b9); clear b9 q0 q1 q2 q3 q4 HX8 HK8 HR8 HB8 HD8 HS8 HG8 HCx8 HPF)
  obtain ⟨Wa, ea, ba, za⟩ := one_new w9 (.cells #[.int .i64 0, .int .i64 0] 31)
  rw [ea]
  have HXa := hide ((unhide HX9).trans (ba.mono (unhide HX9).size)); have HKa := hide (keep_below (unhide HK9) ba); have HRa := hide (keep_below (unhide HR9) ba); have HBa := hide (keep_below (unhide HB9) ba); have HDa := hide (keep_below (unhide HD9) ba); have HSa := hide (keep_below (unhide HS9) ba); have HGa := hide (keep_below (unhide HG9) ba)
  have HCxa := hide ((unhide HCx9).below ba)
  have HWa := hide za
  obtain ⟨Bw, eBw⟩ : ∃ X, w9.heap.size = X := ⟨_, rfl⟩
  rw [eBw] at HWa ⊢
  have HBW : Hid (Br + 1 < Bw ∧ w.heap.size ≤ Bw) := ⟨by rw [← eBw]; exact size_of (unhide HG9), by rw [← eBw]; exact (unhide HX9).size⟩
  clear ea ba za eBw HX9 HK9 HR9 HB9 HD9 HS9 HG9 HCx9
  obtain ⟨⟨q0, q1, q2, q3, q4⟩, ql⟩ := block5 (unhide HKa)
  obtain ⟨⟨x0, x1, x2, x3, x4⟩, xl⟩ := block5 (unhide HBa)
  obtain ⟨d0, d1, -, -, dl⟩ := block2 (unhide HDa)
  obtain ⟨g0, g1, -, -, gl⟩ := block2 (unhide HGa)
  obtain ⟨u0, u1, uf0, uf1, ul⟩ := block2 (unhide HWa)
  go_upto_region 11 with (go_at_call 13; refine (unhide HSM _ (unhide HXa) _ (unhide HCxa)).mono ?_; rintro e wb ⟨rfl, bb⟩; have HXb := hide ((unhide HXa).trans (bb.mono (unhide HXa).size)); have HKb := hide (keep_below (unhide HKa) bb); have HRb := hide (keep_below (unhide HRa) bb); have HSb := hide (keep_below (unhide HSa) bb); have HGb := hide (keep_below (unhide HGa) bb); have HWb := hide (keep_below (unhide HWa) bb); clear bb q0 q1 q2 q3 q4 x0 x1 x2 x3 x4 d0 d1 g0 g1 u0 u1 uf0 uf1 HXa HKa HRa HBa HDa HSa HGa HWa HCxa HSM)
  obtain ⟨⟨q0, q1, q2, q3, q4⟩, ql⟩ := block5 (unhide HKb)
  obtain ⟨⟨s0, s1, s2, s3, s4, s5, s6, s7⟩, -, sl⟩ := reg_all (unhide HSb)
  obtain ⟨g0, g1, -, -, gl⟩ := block2 (unhide HGb)
  obtain ⟨u0, u1, uf0, uf1, ul⟩ := block2 (unhide HWb)
  go_wp2_with fail
  have HA0 : Hid (LawAt w #[.slice a n c, .int .i64 p.cells, .slice b m d, .int .i64 p.locks, .int .i64 p.groups] Br R1 r wb) := ⟨unhide HXb, unhide HKb, unhide HRb, unhide HSb⟩
  have hreq := fun W => regs_same W R1
  clear q0 q1 q2 q3 q4 ql s0 s1 s2 s3 s4 s5 s6 s7 sl g0 g1 gl u0 u1 uf0 uf1 ul HXb HKb HRb HSb HGb HWb HBW
  go_loopw [1, 16] (fun i j W => ∃ (k q : Nat) (s : Nat → Int), i = .int .i64 q ∧ j = .int .i64 k ∧ k ≤ N ∧ q ≤ n ∧ Hid ((runL p (N - k) (q : Nat) s).1 = P1 ∧ (runL p (N - k) (q : Nat) s).2.1 = R1 ∧ (runL p (N - k) (q : Nat) s).2.2 + k = D1) ∧ Hid (LawAt w #[.slice a n c, .int .i64 p.cells, .slice b m d, .int .i64 p.locks, .int .i64 p.groups] Br R1 s W)) (fun _ j _ => N - (intOf j).toNat)
  case atStart => exact ⟨0, q, r, rfl, rfl, Nat.zero_le _, h2, HI, HA0⟩
  case round =>
    obtain ⟨k, qq, s, rfl, rfl, hk, hq1, HIk, HAt⟩ := hrel
    clear HI HA0
    obtain ⟨⟨q0, q1, q2, q3, q4⟩, ql⟩ := block5 (unhide HAt).prog
    have hEnd : ∀ (_ : runL p (N - k) (qq : Nat) s = ((qq : Int), s, 0)), P1 = qq ∧ s = R1 ∧ D1 = k := fun e => by have := unhide HIk; rw [e] at this; exact ⟨this.1.symm, this.2.1, by have h3 := this.2.2; simp only at h3; omega⟩
    have HEnd := hide hEnd
    clear hEnd
    by_cases hkN : k < N
    case neg =>
      obtain ⟨e1, e2, e3⟩ := unhide HEnd (by rw [show N - k = 0 by omega]; rfl)
      subst e1 e2 e3
      have j1 : ¬ (D1 : Int) < (N : Int) := by omega
      clear HEnd HIk
      obtain ⟨⟨s0, s1, s2, s3, s4, s5, s6, s7⟩, -, sl⟩ := reg_all (unhide HAt).regs
      obtain ⟨⟨r0, r1, r2, r3, r4, r5, r6, r7⟩, -, rl⟩ := reg_all (unhide HAt).res
      go_wp2_with fail
      go_ret
      exact ⟨by first | rfl | simp, (unhide HAt).below⟩
    have j1 : (k : Int) < (N : Int) := by omega
    obtain ⟨M, hM⟩ : ∃ M, N - k = M + 1 := ⟨N - k - 1, by omega⟩
    by_cases hq : qq < n
    case neg =>
      obtain ⟨e1, e2, e3⟩ := unhide HEnd (by rw [hM]; unfold runL; rw [if_neg (by rw [unhide HN]; omega)])
      subst e1 e2 e3
      have j2 : ¬ (qq : Int) < (n : Int) := by omega
      clear HEnd HIk hM
      obtain ⟨⟨s0, s1, s2, s3, s4, s5, s6, s7⟩, -, sl⟩ := reg_all (unhide HAt).regs
      obtain ⟨⟨r0, r1, r2, r3, r4, r5, r6, r7⟩, -, rl⟩ := reg_all (unhide HAt).res
      go_wp2_with fail
      go_ret
      exact ⟨by first | rfl | simp, (unhide HAt).below⟩
    have j2 : (qq : Int) < (n : Int) := by omega
    have j3 : (0 : Int) ≤ (qq : Int) := by omega
    obtain ⟨b0, o0, rfl, hb0, l0⟩ := unhide HC0 (by omega)
    obtain ⟨⟨t, x, y⟩, hx⟩ : ∃ x, p.code.getD qq (0, 0, 0) = x := ⟨_, rfl⟩
    obtain ⟨k0, k1, k2⟩ := (l0.below (unhide HAt).below hb0).instr (j := qq) (by rw [unhide HN]; exact hq) hx
    have hwr := unhide HOK qq hq
    rw [hx] at hwr
    have ht1 := (wrong_none hwr).1.1
    simp only at ht1
    by_cases ha7 : t ≤ 7
    case neg =>
      obtain ⟨e1, e2, e3⟩ := unhide HEnd (by rw [hM]; unfold runL; rw [if_neg (by rw [Int.toNat_natCast, hx]; exact fun h => ha7 h.2.2)])
      subst e1 e2 e3
      clear HEnd HIk hM hwr hx l0
      obtain ⟨⟨s0, s1, s2, s3, s4, s5, s6, s7⟩, -, sl⟩ := reg_all (unhide HAt).regs
      obtain ⟨⟨r0, r1, r2, r3, r4, r5, r6, r7⟩, -, rl⟩ := reg_all (unhide HAt).res
      go_wp2_with fail
      go_ret
      exact ⟨by first | rfl | simp, (unhide HAt).below⟩
    have ha : 1 ≤ t ∧ t ≤ 7 := ⟨ht1, ha7⟩
    have HST := hide fun W => did_any W p (t, x, y) hwr ha (qq : Int) s (by omega) (by omega)
    have hpc := step_pc (p := p) hwr ha (pc := (qq : Int)) (by omega) (by rw [unhide HN]; omega) s
    have hrun := unhide HIk
    have e1 : ∀ (X : Int × (Nat → Int)), stepF (t, x, y) (qq : Int) s = X → runL p (N - k) (qq : Nat) s = ((runL p M X.1 X.2).1, (runL p M X.1 X.2).2.1, (runL p M X.1 X.2).2.2 + 1) := fun X e => by
      rw [hM]
      conv => lhs; unfold runL
      rw [if_pos (by rw [Int.toNat_natCast, hx, unhide HN]; exact ⟨j2, ha⟩), Int.toNat_natCast, hx, e]
    obtain ⟨⟨pc2, r2⟩, es⟩ : ∃ X, stepF (t, x, y) (qq : Int) s = X := ⟨_, rfl⟩
    rw [e1 _ es] at hrun
    rw [es] at HST hpc
    simp only at HST hpc hrun
    unfold rv rvA at HST
    obtain ⟨q', rfl⟩ : ∃ q' : Nat, pc2 = q' := ⟨pc2.toNat, by omega⟩
    have HIN : Hid ((runL p (N - (k + 1)) (q' : Nat) r2).1 = P1 ∧ (runL p (N - (k + 1)) (q' : Nat) r2).2.1 = R1 ∧ (runL p (N - (k + 1)) (q' : Nat) r2).2.2 + (k + 1) = D1) := by
      rw [show N - (k + 1) = M by omega]
      exact ⟨hrun.1, hrun.2.1, by omega⟩
    have hq2 : q' ≤ n := by have := hpc.2; rw [unhide HN] at this; omega
    have hw1 : IntKind.i64.wrap ((k : Int) + 1) = (k : Int) + 1 := wrapi (by omega) (by omega)
    clear HEnd HIk hM hwr ha e1 hrun es hpc
    go_upto_region 19 with fail
    clear k0 k1 k2 q0 q1 q2 q3 q4
    obtain ⟨⟨q0, q1, q2, q3, q4, q5, q6, q7⟩, -, ql⟩ := reg_all (unhide HAt).regs
    have HSS : Hid (∀ (W : World) s, LawAt w #[.slice (some ⟨b0, o0, none⟩) n c, .int .i64 p.cells, .slice b m d, .int .i64 p.locks, .int .i64 p.groups] Br R1 s W → (fun W => W.cell? ⟨w.heap.size, 0, none⟩ = some (.slice (some ⟨b0, o0, none⟩) n c) ∧ W.cell? ⟨b0, o0 + qq * 3, none⟩ = some (.int .i64 t) ∧ W.cell? ⟨b0, o0 + qq * 3 + 1, none⟩ = some (.int .i64 x) ∧ W.cell? ⟨b0, o0 + qq * 3 + 2, none⟩ = some (.int .i64 y)) W) := fun W s h => ⟨(block5 h.prog).1.1, (l0.below h.below hb0).instr (by rw [unhide HN]; exact hq) hx⟩
    clear l0 hx
    refine wp_region_held_drew (S := (fun W => W.cell? ⟨w.heap.size, 0, none⟩ = some (.slice (some ⟨b0, o0, none⟩) n c) ∧ W.cell? ⟨b0, o0 + qq * 3, none⟩ = some (.int .i64 t) ∧ W.cell? ⟨b0, o0 + qq * 3 + 1, none⟩ = some (.int .i64 x) ∧ W.cell? ⟨b0, o0 + qq * 3 + 2, none⟩ = some (.int .i64 y))) (by kernel_rfl) (unhide HSS _ _ (unhide HAt).drew) (fun hHeld => ?_)
    refine wpAnyH_take (i := 0) (oi := { dst := some 108, op := Op.fieldAddr 25 (Operand.tmp 4) 0, type := 0, pos := "law11.go:63", after := #[], guard := none }) (v := ?v0) rfl (by kernel_rfl) (by kernel_rfl) (by kernel_rfl) (fun _ _ _ h => h) (Or.inl ⟨by rfl, ?y0⟩) (by assumption) ?r0
    case y0 => (intro w hSw; (try dsimp only at hSw); go_simp; try with_reducible rfl)
    try simp only [Act.put, List.setIfInBounds_toArray, List.set_cons_zero, List.set_cons_succ]
    refine wpAnyH_take (i := 1) (oi := { dst := some 109, op := Op.load 22 (Operand.tmp 108), type := 22, pos := "law11.go:63", after := #[{ on := 0, ground := Ground.data }], guard := none }) (v := ?v1) rfl (by kernel_rfl) (by kernel_rfl) (by kernel_rfl) (fun _ _ _ h => h) (Or.inl ⟨by rfl, ?y1⟩) (by assumption) ?r1
    case y1 => (intro w hSw; (try dsimp only at hSw); go_simp; try with_reducible rfl)
    try simp only [Act.put, List.setIfInBounds_toArray, List.set_cons_zero, List.set_cons_succ]
    refine wpAnyH_take (i := 2) (oi := { dst := some 110, op := Op.move (Operand.tmp 1), type := 3, pos := "law11.go:63", after := #[], guard := none }) (v := ?v2) rfl (by kernel_rfl) (by kernel_rfl) (by kernel_rfl) (fun _ _ _ h => h) (Or.inl ⟨by rfl, ?y2⟩) (by assumption) ?r2
    case y2 => (intro w hSw; (try dsimp only at hSw); go_simp; try with_reducible rfl)
    try simp only [Act.put, List.setIfInBounds_toArray, List.set_cons_zero, List.set_cons_succ]
    refine wpAnyH_take (i := 3) (oi := { dst := some 111, op := Op.indexAddr 22 (Operand.tmp 109) (Operand.tmp 110), type := 0, pos := "law11.go:63", after := #[{ on := 1, ground := Ground.data }, { on := 2, ground := Ground.data }], guard := none }) (v := ?v3) rfl (by kernel_rfl) (by kernel_rfl) (by kernel_rfl) (fun _ _ _ h => h) (Or.inl ⟨by rfl, ?y3⟩) (by assumption) ?r3
    case y3 => (intro w hSw; (try dsimp only at hSw); go_simp; try with_reducible rfl)
    try simp only [Act.put, List.setIfInBounds_toArray, List.set_cons_zero, List.set_cons_succ]
    refine wpAnyH_take (i := 4) (oi := { dst := some 112, op := Op.load 38 (Operand.tmp 111), type := 38, pos := "law11.go:63", after := #[{ on := 3, ground := Ground.data }], guard := none }) (v := ?v4) rfl (by kernel_rfl) (by kernel_rfl) (by kernel_rfl) (fun _ _ _ h => h) (Or.inl ⟨by rfl, ?y4⟩) (by assumption) ?r4
    case y4 => (intro w hSw; (try dsimp only at hSw); go_simp; try with_reducible rfl)
    try simp only [Act.put, List.setIfInBounds_toArray, List.set_cons_zero, List.set_cons_succ]
    refine wpAnyH_take (i := 5) (oi := { dst := some 113, op := Op.move (Operand.tmp 1), type := 3, pos := "law11.go:63", after := #[], guard := none }) (v := ?v5) rfl (by kernel_rfl) (by kernel_rfl) (by kernel_rfl) (fun _ _ _ h => h) (Or.inl ⟨by rfl, ?y5⟩) (by assumption) ?r5
    case y5 => (intro w hSw; (try dsimp only at hSw); go_simp; try with_reducible rfl)
    try simp only [Act.put, List.setIfInBounds_toArray, List.set_cons_zero, List.set_cons_succ]
    refine wpAnyH_ready (rs := [6]) (by kernel_rfl) (by simp) ?_
    refine AllReadyH.cons (o := { dst := some 114, op := Op.load 26 (Operand.tmp 6), type := 26, pos := "law11.go:63", after := #[], guard := none }) rfl (fun K hK => ?_) AllReadyH.nil
    go_simp
    skip
    refine hK.out _ _ (unhide HSS _ _ (unhide HAt).drew) (fun hHeld => ?_)
    clear hK K
    try simp only [Act.put, List.setIfInBounds_toArray, List.set_cons_zero, List.set_cons_succ]
    refine wpAnyH_ready (rs := [7]) (by kernel_rfl) (by simp) ?_
    refine AllReadyH.cons (o := { dst := some 115, op := Op.call { callee := Callee.value (Operand.func 15), args := #[Operand.tmp 112, Operand.tmp 113, Operand.tmp 114], argTypes := #[38, 3, 26] }, type := 39, pos := "law11.go:63", after := #[{ on := 4, ground := Ground.data }, { on := 5, ground := Ground.data }, { on := 6, ground := Ground.data }], guard := none }) rfl (fun K hK => ?_) AllReadyH.nil
    go_simp
    (refine (unhide HST _).mono ?_; rintro e w5 ⟨rfl, b5⟩; have HAt5 := hide ((unhide HAt).drew.call b5); clear b5; go_simp)
    refine hK.out _ _ (unhide HSS _ _ (unhide HAt5)) (fun hHeld => ?_)
    clear hK K
    try simp only [Act.put, List.setIfInBounds_toArray, List.set_cons_zero, List.set_cons_succ]
    refine wpAnyH_take (i := 8) (oi := { dst := some 107, op := Op.move (Operand.tmp 115), type := 39, pos := "law11.go:63", after := #[{ on := 7, ground := Ground.data }], guard := none }) (v := ?v8) rfl (by kernel_rfl) (by kernel_rfl) (by kernel_rfl) (fun _ _ _ h => h) (Or.inl ⟨by rfl, ?y8⟩) (by assumption) ?r8
    case y8 => (intro w hSw; (try dsimp only at hSw); go_simp; try with_reducible rfl)
    try simp only [Act.put, List.setIfInBounds_toArray, List.set_cons_zero, List.set_cons_succ]
    refine wpAnyH_take (i := 9) (oi := { dst := some 116, op := Op.extract (Operand.tmp 107) 0, type := 3, pos := "law11.go:63", after := #[{ on := 8, ground := Ground.data }], guard := none }) (v := ?v9) rfl (by kernel_rfl) (by kernel_rfl) (by kernel_rfl) (fun _ _ _ h => h) (Or.inl ⟨by rfl, ?y9⟩) (by assumption) ?r9
    case y9 => (intro w hSw; (try dsimp only at hSw); go_simp; try with_reducible rfl)
    try simp only [Act.put, List.setIfInBounds_toArray, List.set_cons_zero, List.set_cons_succ]
    refine wpAnyH_take (i := 10) (oi := { dst := some 117, op := Op.extract (Operand.tmp 107) 1, type := 26, pos := "law11.go:63", after := #[{ on := 8, ground := Ground.data }, { on := 11, ground := Ground.gcOnly Departure.lateStores }], guard := none }) (v := ?v10) rfl (by kernel_rfl) (by kernel_rfl) (by kernel_rfl) (fun _ _ _ h => h) (Or.inl ⟨by rfl, ?y10⟩) (by assumption) ?r10
    case y10 => (intro w hSw; (try dsimp only at hSw); go_simp; try with_reducible rfl)
    try simp only [Act.put, List.setIfInBounds_toArray, List.set_cons_zero, List.set_cons_succ]
    refine wpAnyH_take (i := 11) (oi := { dst := some 1, op := Op.assign (Operand.tmp 116), type := 3, pos := "law11.go:63", after := #[{ on := 9, ground := Ground.data }, { on := 7, ground := Ground.chain }, { on := 0, ground := Ground.phase }, { on := 1, ground := Ground.phase }, { on := 2, ground := Ground.phase }, { on := 3, ground := Ground.phase }, { on := 4, ground := Ground.phase }, { on := 5, ground := Ground.phase }, { on := 6, ground := Ground.phase }, { on := 7, ground := Ground.phase }, { on := 8, ground := Ground.phase }, { on := 9, ground := Ground.phase }, { on := 10, ground := Ground.textOnly Departure.lateStores }], guard := none }) (v := ?v11) rfl (by kernel_rfl) (by kernel_rfl) (by kernel_rfl) (fun _ _ _ h => h) (Or.inl ⟨by rfl, ?y11⟩) (by assumption) ?r11
    case y11 => (intro w hSw; (try dsimp only at hSw); go_simp; try with_reducible rfl)
    try simp only [Act.put, List.setIfInBounds_toArray, List.set_cons_zero, List.set_cons_succ]
    obtain ⟨⟨s0, s1, s2, s3, s4, s5, s6, s7⟩, ⟨h0, h1, h2, h3, h4, h5, h6, h7⟩, sl⟩ := reg_all (unhide HAt5).regs
    obtain ⟨W6, e6, HA6⟩ := (unhide HAt5).put (unhide HBR) r2
    refine wpAnyH_ready (rs := [12]) (by kernel_rfl) (by simp) ?_
    refine AllReadyH.cons (o := { dst := none, op := Op.store 26 (Operand.tmp 6) (Operand.tmp 117), type := 0, pos := "law11.go:63", after := #[{ on := 10, ground := Ground.data }, { on := 11, ground := Ground.chain }, { on := 0, ground := Ground.phase }, { on := 1, ground := Ground.phase }, { on := 2, ground := Ground.phase }, { on := 3, ground := Ground.phase }, { on := 4, ground := Ground.phase }, { on := 5, ground := Ground.phase }, { on := 6, ground := Ground.phase }, { on := 7, ground := Ground.phase }, { on := 8, ground := Ground.phase }, { on := 9, ground := Ground.phase }, { on := 10, ground := Ground.phase }, { on := 11, ground := Ground.phase }], guard := none }) rfl (fun K hK => ?_) AllReadyH.nil
    go_simp
    try rw [e6]
    refine hK.out _ _ (unhide HSS _ _ HA6) (fun hHeld => ?_)
    clear hK K
    try simp only [Act.put, List.setIfInBounds_toArray, List.set_cons_zero, List.set_cons_succ]
    refine wpAnyH_done (by kernel_rfl) ?_ _
    go_wp2_with fail
    go_roundw
    case rel => exact ⟨k + 1, q', rfl, by go_num, by omega, hq2, r2, HIN, HA6⟩
    case measure => simp [intOf]; omega

theorem runs_walk (w : World) (v : Value) (p : Pg) (h : IsP w v p) (ht : Tabs w) (hA : ArgsAt w) (hn : p.code.length ≤ maxLen) (hm : p.pipes.length ≤ maxLen) (hn2 : p.code.length * 24 ≤ 140737488355328) (hm2 : p.pipes.length * 8 ≤ 140737488355328) (pc : Int) (r : Nat → Int) (fuel : Int) :
    Calls Tryd.prog 3 #[v, .int .i64 pc, rv r, .int .i64 fuel] w fun e w' => e = .returned (.bool true) ∧ Below w.heap.size w w' := by
  by_cases hv : 2000 < p.code.length ∨ 2000 < p.pipes.length
  · exact runs_vast w v p h ht hA hn hm hn2 hm2 pc r fuel hv
  by_cases hF0 : (checkF p).1 = 0
  · have hF := (check_zero hF0).1
    by_cases h1 : pc < 0
    · exact runs_b1 w v p h ht hA hn hm hn2 hm2 pc r fuel hv hF h1
    by_cases h2 : (p.code.length : Int) < pc
    · exact runs_b2 w v p h ht hA hn hm hn2 hm2 pc r fuel hv hF h1 h2
    by_cases h3 : fuel < 0
    · exact runs_b3 w v p h ht hA hn hm hn2 hm2 pc r fuel hv hF h1 h2 h3
    by_cases h4 : 5000 < fuel
    · exact runs_b4 w v p h ht hA hn hm hn2 hm2 pc r fuel hv hF h1 h2 h3 h4
    · exact runs_c w v p h ht hA hn hm hn2 hm2 pc r fuel hv hF pc.toNat fuel.toNat (by omega) (by omega) (by omega) (by omega) _ _ _ rfl
  · exact runs_a w v p h ht hA hn hm hn2 hm2 pc r fuel hv _ _ rfl hF0

end Go.Proofs.YtgeinjldjpaleaaDoor
