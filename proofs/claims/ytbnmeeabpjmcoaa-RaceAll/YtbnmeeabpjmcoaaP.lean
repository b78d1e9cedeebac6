/-
  The method keep of order.past: gets, shuts; order.newPast.
-/
import Derived.Test.YtbnmeeabpjmcoaaO
namespace Go.Proofs.Ytbnmeeabpjmcoaa
open Go.RowKit

set_option maxRecDepth 100000 in
set_option maxHeartbeats 2000000 in
theorem keep16 (w : World) (hv : Value) (_hs : List Int) (d : Dat) (M : PastM) (tk op ob vl : Int) (now : Nat → Int) (hop : op = 16) (h : PastAt hv w d M) :
    Calls Try.prog 53 #[.pointer (some ⟨d.P, 0, none⟩), .agg #[.int .i64 tk, .int .i64 op, .int .i64 ob, .int .i64 vl], ckV now] w fun e w' => ∃ d', e = .returned (.tuple #[]) ∧ PastAt hv w' d' ({ M with pipes := updI M.pipes ob { M.pipes ob with shut := now } }) ∧ Stp d d' w w' := by
  subst hop
  obtain ⟨W, eW, hB, hE, hZ⟩ := two_new w (evB ⟨tk, 16, ob, vl⟩) (ckB now)
  have hP := h.below hB
  have hLE : d.lab w.heap.size = (0, 0) := h.hi _ (Nat.le_refl _)
  have hLR : d.lab (w.heap.size + 1) = (0, 0) := h.hi _ (Nat.le_succ _)
  have HPd : Hid (PastAt hv W.drew d M) := hP.below (Below.refl _ _).drew
  have HSS : Hid (∀ (W' : World) (d1 : Dat) (M' : PastM), PastAt hv W' d1 M' → Stp d d1 W W' → (W'.cell? ⟨d.P, 0, none⟩ = some hv ∧ W'.cell? ⟨d.P, 1, none⟩ = some (.map (some d.Bt)) ∧ W'.cell? ⟨d.P, 2, none⟩ = some (.map (some d.Bp)) ∧ W'.cell? ⟨d.P, 3, none⟩ = some (.map (some d.Bl)) ∧ W'.cell? ⟨d.P, 4, none⟩ = some (.map (some d.Bg))) ∧ (W'.cell? ⟨w.heap.size, 0, none⟩ = some (.int .i64 tk) ∧ W'.cell? ⟨w.heap.size, 1, none⟩ = some (.int .i64 16) ∧ W'.cell? ⟨w.heap.size, 2, none⟩ = some (.int .i64 ob) ∧ W'.cell? ⟨w.heap.size, 3, none⟩ = some (.int .i64 vl)) ∧ W'.rangeAt (w.heap.size + 1) 0 (ckL now)) := fun W' d1 M' h1 h2 => ⟨h1.cellsP h2, ev_cells (h2.at hE hLE), range_block (l := []) (r := []) (by have := h2.at hZ hLR; simpa [ckB] using this)⟩
  have HWS : Hid (Stp d d w W) := Stp.of_below hB
  have HSD : Hid (Stp d d W W.drew) := Stp.of_below (Below.refl _ _).drew
  have HS0 := hide (unhide HSS W.drew d M (unhide HPd) (unhide HSD))
  obtain ⟨x0, x1, x2, x3⟩ := ev_cells hE
  have HE := hide eW
  have hu := Try.und65
  have hi : (Try.prog.info? 65).map (·.size) = some (ckL now).length := by rw [ckL_len]; exact Try.size65
  clear eW hB hE hZ hP hLE hLR h
  go_enter Try.func53, Try.ntmps53
  go_upto_region 1 with fail
  unfold evB ckB at HE
  rw [unhide HE]
  clear HE
  go_upto_region 11 with fail
  clear x0 x1 x2 x3
  go_region_held3 (fun W' => (W'.cell? ⟨d.P, 0, none⟩ = some hv ∧ W'.cell? ⟨d.P, 1, none⟩ = some (.map (some d.Bt)) ∧ W'.cell? ⟨d.P, 2, none⟩ = some (.map (some d.Bp)) ∧ W'.cell? ⟨d.P, 3, none⟩ = some (.map (some d.Bl)) ∧ W'.cell? ⟨d.P, 4, none⟩ = some (.map (some d.Bg))) ∧ (W'.cell? ⟨w.heap.size, 0, none⟩ = some (.int .i64 tk) ∧ W'.cell? ⟨w.heap.size, 1, none⟩ = some (.int .i64 16) ∧ W'.cell? ⟨w.heap.size, 2, none⟩ = some (.int .i64 ob) ∧ W'.cell? ⟨w.heap.size, 3, none⟩ = some (.int .i64 vl)) ∧ W'.rangeAt (w.heap.size + 1) 0 (ckL now))
    (first | exact unhide HS0 | exact unhide HS1 | exact unhide HS2 | exact unhide HS3)
    (first
      | (go_at_call 54; (with_reducible refine Calls.mono (found_p _ hv d M (unhide HPd) ob) ?_); rintro e w1 ⟨d1, b, rfl, hm, h1, h2⟩; have HT1 := hide (Stp.trans (unhide HSD) h2); have HS1 := hide (unhide HSS w1 d1 M h1 (unhide HT1)); obtain ⟨d2, h4, h5⟩ := h1.shut hm now; have HP2 := hide h4; have HT2 := hide ((unhide HT1).trans h5); have HS2 := hide (unhide HSS _ d2 _ h4 (unhide HT2)); have hone := ckL_one now; have hth : w1.there b 2 (ckL now).toArray.size := (by have := pp_there (h1.p.ent ob b hm).2.2.blk; simpa [ckL_len] using this); clear h1 h2 hm h4 h5))
  go_wp2_with fail
  exact bodyPost_end (v := .tuple #[]) (by simp [results, Try.results53]) rfl ⟨d2, rfl, unhide HP2, (unhide HWS).trans (unhide HT2)⟩

set_option maxRecDepth 100000 in
set_option maxHeartbeats 2000000 in
theorem keep15_spent (w : World) (hv : Value) (_hs : List Int) (d : Dat) (M : PastM) (tk op ob vl : Int) (now : Nat → Int) (hop : op = 15) (h : PastAt hv w d M) (hsp : (M.pipes ob).gets.length = (M.pipes ob).sends.length) :
    Calls Try.prog 53 #[.pointer (some ⟨d.P, 0, none⟩), .agg #[.int .i64 tk, .int .i64 op, .int .i64 ob, .int .i64 vl], ckV now] w fun e w' => ∃ d', e = .returned (.tuple #[]) ∧ PastAt hv w' d' (M) ∧ Stp d d' w w' := by
  subst hop
  obtain ⟨W, eW, hB, hE, hZ⟩ := two_new w (evB ⟨tk, 15, ob, vl⟩) (ckB now)
  have hP := h.below hB
  have hLE : d.lab w.heap.size = (0, 0) := h.hi _ (Nat.le_refl _)
  have hLR : d.lab (w.heap.size + 1) = (0, 0) := h.hi _ (Nat.le_succ _)
  have HPd : Hid (PastAt hv W.drew d M) := hP.below (Below.refl _ _).drew
  have HSS : Hid (∀ (W' : World) (d1 : Dat) (M' : PastM), PastAt hv W' d1 M' → Stp d d1 W W' → (W'.cell? ⟨d.P, 0, none⟩ = some hv ∧ W'.cell? ⟨d.P, 1, none⟩ = some (.map (some d.Bt)) ∧ W'.cell? ⟨d.P, 2, none⟩ = some (.map (some d.Bp)) ∧ W'.cell? ⟨d.P, 3, none⟩ = some (.map (some d.Bl)) ∧ W'.cell? ⟨d.P, 4, none⟩ = some (.map (some d.Bg))) ∧ (W'.cell? ⟨w.heap.size, 0, none⟩ = some (.int .i64 tk) ∧ W'.cell? ⟨w.heap.size, 1, none⟩ = some (.int .i64 15) ∧ W'.cell? ⟨w.heap.size, 2, none⟩ = some (.int .i64 ob) ∧ W'.cell? ⟨w.heap.size, 3, none⟩ = some (.int .i64 vl)) ∧ W'.rangeAt (w.heap.size + 1) 0 (ckL now)) := fun W' d1 M' h1 h2 => ⟨h1.cellsP h2, ev_cells (h2.at hE hLE), range_block (l := []) (r := []) (by have := h2.at hZ hLR; simpa [ckB] using this)⟩
  have HWS : Hid (Stp d d w W) := Stp.of_below hB
  have HSD : Hid (Stp d d W W.drew) := Stp.of_below (Below.refl _ _).drew
  have HS0 := hide (unhide HSS W.drew d M (unhide HPd) (unhide HSD))
  obtain ⟨x0, x1, x2, x3⟩ := ev_cells hE
  have HE := hide eW
  have hu := Try.und65
  have hi : (Try.prog.info? 65).map (·.size) = some (ckL now).length := by rw [ckL_len]; exact Try.size65
  clear eW hB hE hZ hP hLE hLR h
  go_enter Try.func53, Try.ntmps53
  go_upto_region 1 with fail
  unfold evB ckB at HE
  rw [unhide HE]
  clear HE
  go_upto_region 7 with fail
  clear x0 x1 x2 x3
  go_region_held3 (fun W' => (W'.cell? ⟨d.P, 0, none⟩ = some hv ∧ W'.cell? ⟨d.P, 1, none⟩ = some (.map (some d.Bt)) ∧ W'.cell? ⟨d.P, 2, none⟩ = some (.map (some d.Bp)) ∧ W'.cell? ⟨d.P, 3, none⟩ = some (.map (some d.Bl)) ∧ W'.cell? ⟨d.P, 4, none⟩ = some (.map (some d.Bg))) ∧ (W'.cell? ⟨w.heap.size, 0, none⟩ = some (.int .i64 tk) ∧ W'.cell? ⟨w.heap.size, 1, none⟩ = some (.int .i64 15) ∧ W'.cell? ⟨w.heap.size, 2, none⟩ = some (.int .i64 ob) ∧ W'.cell? ⟨w.heap.size, 3, none⟩ = some (.int .i64 vl)) ∧ W'.rangeAt (w.heap.size + 1) 0 (ckL now))
    (first | exact unhide HS0 | exact unhide HS1 | exact unhide HS2 | exact unhide HS3)
    (first
      | (go_at_call 54; (with_reducible refine Calls.mono (found_p _ hv d M (unhide HPd) ob) ?_); rintro e w1 ⟨d1, b, rfl, hm, h1, h2⟩; have HP1 := hide h1; have HT1 := hide (Stp.trans (unhide HSD) h2); have HM1 := hide hm; have HS1 := hide (unhide HSS w1 d1 M h1 (unhide HT1)); clear h1 h2 hm)
      | (go_at_call 60; (with_reducible refine Calls.mono (keepGet_spent _ hv d1 M (unhide HP1) ob b (unhide HM1) now hsp) ?_); rintro e w2 ⟨rfl, h2⟩; have HP2 := hide ((unhide HP1).below h2); have HT2 := hide ((unhide HT1).call h2); have HS2 := hide (unhide HSS w2 d1 _ (unhide HP2) (unhide HT2)); clear h2; obtain ⟨d2, ed2⟩ : ∃ X, d1 = X := ⟨_, rfl⟩; rw [ed2] at HP2 HT2; clear ed2))
  go_wp2_with fail
  obtain ⟨⟨q0, q1, q2, q3, q4⟩, ⟨r0, r1, r2, r3⟩, -⟩ := unhide HS2
  go_quiet (fail)
  have HP3 := hide ((unhide HP2).below (below_drewN (Below.refl _ _) nq)); have HT3 := hide ((unhide HT2).call (below_drewN (Below.refl _ _) nq))
  clear q0 q1 q2 q3 q4 r0 r1 r2 r3 HP2 HT2 HS2
  obtain ⟨W3, e3⟩ : ∃ X, w2.drewN nq = X := ⟨_, rfl⟩
  rw [e3] at HP3 HT3 ⊢
  clear e3
  go_wp2_with fail
  exact bodyPost_end (v := .tuple #[]) (by simp [results, Try.results53]) rfl (by first | exact ⟨d2, rfl, unhide HP3, (unhide HWS).trans (unhide HT3)⟩ | exact ⟨rfl, d2, unhide HP3, (unhide HWS).trans (unhide HT3)⟩)

set_option maxRecDepth 100000 in
set_option maxHeartbeats 2000000 in
theorem keep15_nobody (w : World) (hv : Value) (_hs : List Int) (d : Dat) (M : PastM) (tk op ob vl : Int) (now : Nat → Int) (hop : op = 15) (h : PastAt hv w d M) (hsh : Short M) (hsp : (M.pipes ob).gets.length ≠ (M.pipes ob).sends.length) (eby : byM (M.pipes ob) = 0) :
    Calls Try.prog 53 #[.pointer (some ⟨d.P, 0, none⟩), .agg #[.int .i64 tk, .int .i64 op, .int .i64 ob, .int .i64 vl], ckV now] w fun e w' => ∃ d', e = .returned (.tuple #[]) ∧ PastAt hv w' d' ({ M with pipes := updI M.pipes ob (getM (M.pipes ob) now) }) ∧ Stp d d' w w' := by
  subst hop
  obtain ⟨W, eW, hB, hE, hZ⟩ := two_new w (evB ⟨tk, 15, ob, vl⟩) (ckB now)
  have hP := h.below hB
  have hLE : d.lab w.heap.size = (0, 0) := h.hi _ (Nat.le_refl _)
  have hLR : d.lab (w.heap.size + 1) = (0, 0) := h.hi _ (Nat.le_succ _)
  have HPd : Hid (PastAt hv W.drew d M) := hP.below (Below.refl _ _).drew
  have HSS : Hid (∀ (W' : World) (d1 : Dat) (M' : PastM), PastAt hv W' d1 M' → Stp d d1 W W' → (W'.cell? ⟨d.P, 0, none⟩ = some hv ∧ W'.cell? ⟨d.P, 1, none⟩ = some (.map (some d.Bt)) ∧ W'.cell? ⟨d.P, 2, none⟩ = some (.map (some d.Bp)) ∧ W'.cell? ⟨d.P, 3, none⟩ = some (.map (some d.Bl)) ∧ W'.cell? ⟨d.P, 4, none⟩ = some (.map (some d.Bg))) ∧ (W'.cell? ⟨w.heap.size, 0, none⟩ = some (.int .i64 tk) ∧ W'.cell? ⟨w.heap.size, 1, none⟩ = some (.int .i64 15) ∧ W'.cell? ⟨w.heap.size, 2, none⟩ = some (.int .i64 ob) ∧ W'.cell? ⟨w.heap.size, 3, none⟩ = some (.int .i64 vl)) ∧ W'.rangeAt (w.heap.size + 1) 0 (ckL now)) := fun W' d1 M' h1 h2 => ⟨h1.cellsP h2, ev_cells (h2.at hE hLE), range_block (l := []) (r := []) (by have := h2.at hZ hLR; simpa [ckB] using this)⟩
  have HWS : Hid (Stp d d w W) := Stp.of_below hB
  have HSD : Hid (Stp d d W W.drew) := Stp.of_below (Below.refl _ _).drew
  have HS0 := hide (unhide HSS W.drew d M (unhide HPd) (unhide HSD))
  obtain ⟨x0, x1, x2, x3⟩ := ev_cells hE
  have HE := hide eW
  have HBY := hide eby
  clear eby
  have hu := Try.und65
  have hi : (Try.prog.info? 65).map (·.size) = some (ckL now).length := by rw [ckL_len]; exact Try.size65
  clear eW hB hE hZ hP hLE hLR h
  go_enter Try.func53, Try.ntmps53
  go_upto_region 1 with fail
  unfold evB ckB at HE
  rw [unhide HE]
  clear HE
  go_upto_region 7 with fail
  clear x0 x1 x2 x3
  go_region_held3 (fun W' => (W'.cell? ⟨d.P, 0, none⟩ = some hv ∧ W'.cell? ⟨d.P, 1, none⟩ = some (.map (some d.Bt)) ∧ W'.cell? ⟨d.P, 2, none⟩ = some (.map (some d.Bp)) ∧ W'.cell? ⟨d.P, 3, none⟩ = some (.map (some d.Bl)) ∧ W'.cell? ⟨d.P, 4, none⟩ = some (.map (some d.Bg))) ∧ (W'.cell? ⟨w.heap.size, 0, none⟩ = some (.int .i64 tk) ∧ W'.cell? ⟨w.heap.size, 1, none⟩ = some (.int .i64 15) ∧ W'.cell? ⟨w.heap.size, 2, none⟩ = some (.int .i64 ob) ∧ W'.cell? ⟨w.heap.size, 3, none⟩ = some (.int .i64 vl)) ∧ W'.rangeAt (w.heap.size + 1) 0 (ckL now))
    (first | exact unhide HS0 | exact unhide HS1 | exact unhide HS2 | exact unhide HS3)
    (first
      | (go_at_call 54; (with_reducible refine Calls.mono (found_p _ hv d M (unhide HPd) ob) ?_); rintro e w1 ⟨d1, b, rfl, hm, h1, h2⟩; have HP1 := hide h1; have HT1 := hide (Stp.trans (unhide HSD) h2); have HM1 := hide hm; have HS1 := hide (unhide HSS w1 d1 M h1 (unhide HT1)); clear h1 h2 hm)
      | (go_at_call 60; (with_reducible refine Calls.mono (keepGet_at _ hv d1 M (unhide HP1) ob b (unhide HM1) hsh now hsp) ?_); rintro e w2 ⟨d2, rfl, h1, h2⟩; rw [unhide HBY]; have HP2 := hide h1; have HT2 := hide ((unhide HT1).trans h2); have HS2 := hide (unhide HSS w2 d2 _ h1 (unhide HT2)); clear h1 h2))
  go_wp2_with fail
  obtain ⟨⟨q0, q1, q2, q3, q4⟩, ⟨r0, r1, r2, r3⟩, -⟩ := unhide HS2
  go_quiet (fail)
  have HP3 := hide ((unhide HP2).below (below_drewN (Below.refl _ _) nq)); have HT3 := hide ((unhide HT2).call (below_drewN (Below.refl _ _) nq))
  clear q0 q1 q2 q3 q4 r0 r1 r2 r3 HP2 HT2 HS2
  obtain ⟨W3, e3⟩ : ∃ X, w2.drewN nq = X := ⟨_, rfl⟩
  rw [e3] at HP3 HT3 ⊢
  clear e3
  go_wp2_with fail
  exact bodyPost_end (v := .tuple #[]) (by simp [results, Try.results53]) rfl (by first | exact ⟨d2, rfl, unhide HP3, (unhide HWS).trans (unhide HT3)⟩ | exact ⟨rfl, d2, unhide HP3, (unhide HWS).trans (unhide HT3)⟩)

set_option maxRecDepth 100000 in
set_option maxHeartbeats 2000000 in
theorem keep15_holds (w : World) (hv : Value) (hs : List Int) (d : Dat) (M : PastM) (tk op ob vl : Int) (now : Nat → Int) (hop : op = 15) (h : PastAt hv w d M) (hsh : Short M) (hsp : (M.pipes ob).gets.length ≠ (M.pipes ob).sends.length) (bb : Int) (eby : byM (M.pipes ob) = bb) (hbb : (bb == 0) = false) (hH : Holds hv w d hs) (hob0 : 0 ≤ ob) (hob1 : ob < (hs.length : Int)) (hd : Int) (ehd : hs.getD ob.toNat 0 = hd) (hhd : (hd == 0) = false) :
    Calls Try.prog 53 #[.pointer (some ⟨d.P, 0, none⟩), .agg #[.int .i64 tk, .int .i64 op, .int .i64 ob, .int .i64 vl], ckV now] w fun e w' => ∃ d', e = .returned (.tuple #[]) ∧ PastAt hv w' d' ({ M with pipes := updI M.pipes ob (getM (M.pipes ob) now) }) ∧ Stp d d' w w' := by
  subst hop
  have hb1 : ¬ bb = 0 := by simpa using hbb
  have hb2 : (bb != 0) = true := by simp [bne, hbb]
  obtain ⟨W, eW, hB, hE, hZ⟩ := two_new w (evB ⟨tk, 15, ob, vl⟩) (ckB now)
  have hP := h.below hB
  have hLE : d.lab w.heap.size = (0, 0) := h.hi _ (Nat.le_refl _)
  have hLR : d.lab (w.heap.size + 1) = (0, 0) := h.hi _ (Nat.le_succ _)
  obtain ⟨oj, rfl⟩ : ∃ j : Nat, ob = (j : Int) := ⟨ob.toNat, by omega⟩
  obtain ⟨hb, ho, hc, rfl, hbl, hlab, hcell⟩ := hH oj (by omega)
  obtain ⟨hn, ehn⟩ : ∃ X, hs.length = X := ⟨_, rfl⟩
  rw [show (oj : Int).toNat = oj from Int.toNat_natCast oj] at ehd
  rw [ehd] at hcell
  rw [ehn] at hP hob1 h ⊢
  have i0 : (0 : Int) ≤ (oj : Int) := by omega
  have i1 : (oj : Int) < (hn : Int) := hob1
  have hHC : ∀ (W' : World) (d1 : Dat), Stp d d1 w W' → W'.cell? ⟨hb, ho + oj, none⟩ = some (.int .i64 hd) := fun W' d1 h2 => cell_of hcell (h2.keep hb hbl hlab)
  clear hcell hob0 hob1 ehd ehn hbl hlab hH
  have HPd : Hid (PastAt (.slice (some ⟨hb, ho, none⟩) hn hc) W.drew d M) := hP.below (Below.refl _ _).drew
  have HSS : Hid (∀ (W' : World) (d1 : Dat) (M' : PastM), PastAt (.slice (some ⟨hb, ho, none⟩) hn hc) W' d1 M' → Stp d d1 W W' → (W'.cell? ⟨d.P, 0, none⟩ = some (.slice (some ⟨hb, ho, none⟩) hn hc) ∧ W'.cell? ⟨d.P, 1, none⟩ = some (.map (some d.Bt)) ∧ W'.cell? ⟨d.P, 2, none⟩ = some (.map (some d.Bp)) ∧ W'.cell? ⟨d.P, 3, none⟩ = some (.map (some d.Bl)) ∧ W'.cell? ⟨d.P, 4, none⟩ = some (.map (some d.Bg))) ∧ (W'.cell? ⟨w.heap.size, 0, none⟩ = some (.int .i64 tk) ∧ W'.cell? ⟨w.heap.size, 1, none⟩ = some (.int .i64 15) ∧ W'.cell? ⟨w.heap.size, 2, none⟩ = some (.int .i64 (oj : Int)) ∧ W'.cell? ⟨w.heap.size, 3, none⟩ = some (.int .i64 vl)) ∧ W'.rangeAt (w.heap.size + 1) 0 (ckL now)) := fun W' d1 M' h1 h2 => ⟨h1.cellsP h2, ev_cells (h2.at hE hLE), range_block (l := []) (r := []) (by have := h2.at hZ hLR; simpa [ckB] using this)⟩
  have HWS : Hid (Stp d d w W) := Stp.of_below hB
  have HSD : Hid (Stp d d W W.drew) := Stp.of_below (Below.refl _ _).drew
  have HS0 := hide (unhide HSS W.drew d M (unhide HPd) (unhide HSD))
  obtain ⟨x0, x1, x2, x3⟩ := ev_cells hE
  have HE := hide eW
  have HHC : Hid (∀ (W' : World) (d1 : Dat), Stp d d1 W W' → W'.cell? ⟨hb, ho + oj, none⟩ = some (.int .i64 hd)) := fun W' d1 h2 => hHC W' d1 ((Stp.of_below hB).trans h2)
  have HBY := hide eby
  clear eby
  have hu := Try.und65
  have hi : (Try.prog.info? 65).map (·.size) = some (ckL now).length := by rw [ckL_len]; exact Try.size65
  clear eW hB hE hZ hP hLE hLR h hHC
  go_enter Try.func53, Try.ntmps53
  go_upto_region 1 with fail
  unfold evB ckB at HE
  rw [unhide HE]
  clear HE
  go_upto_region 7 with fail
  clear x0 x1 x2 x3
  go_region_held3 (fun W' => (W'.cell? ⟨d.P, 0, none⟩ = some (.slice (some ⟨hb, ho, none⟩) hn hc) ∧ W'.cell? ⟨d.P, 1, none⟩ = some (.map (some d.Bt)) ∧ W'.cell? ⟨d.P, 2, none⟩ = some (.map (some d.Bp)) ∧ W'.cell? ⟨d.P, 3, none⟩ = some (.map (some d.Bl)) ∧ W'.cell? ⟨d.P, 4, none⟩ = some (.map (some d.Bg))) ∧ (W'.cell? ⟨w.heap.size, 0, none⟩ = some (.int .i64 tk) ∧ W'.cell? ⟨w.heap.size, 1, none⟩ = some (.int .i64 15) ∧ W'.cell? ⟨w.heap.size, 2, none⟩ = some (.int .i64 (oj : Int)) ∧ W'.cell? ⟨w.heap.size, 3, none⟩ = some (.int .i64 vl)) ∧ W'.rangeAt (w.heap.size + 1) 0 (ckL now))
    (first | exact unhide HS0 | exact unhide HS1 | exact unhide HS2 | exact unhide HS3)
    (first
      | (go_at_call 54; (with_reducible refine Calls.mono (found_p _ _ d M (unhide HPd) (oj : Int)) ?_); rintro e w1 ⟨d1, b, rfl, hm, h1, h2⟩; have HP1 := hide h1; have HT1 := hide (Stp.trans (unhide HSD) h2); have HM1 := hide hm; have HS1 := hide (unhide HSS w1 d1 M h1 (unhide HT1)); clear h1 h2 hm)
      | (go_at_call 60; (with_reducible refine Calls.mono (keepGet_at _ _ d1 M (unhide HP1) (oj : Int) b (unhide HM1) hsh now hsp) ?_); rintro e w2 ⟨d2, rfl, h1, h2⟩; rw [unhide HBY]; have HP2 := hide h1; have HT2 := hide ((unhide HT1).trans h2); have HS2 := hide (unhide HSS w2 d2 _ h1 (unhide HT2)); clear h1 h2))
  go_wp2_with fail
  obtain ⟨⟨q0, q1, q2, q3, q4⟩, ⟨r0, r1, r2, r3⟩, -⟩ := unhide HS2
  have q5 := unhide HHC _ d2 (unhide HT2)
  go_quiet (fail)
  have HP3 := hide ((unhide HP2).below (below_drewN (Below.refl _ _) nq)); have HT3 := hide ((unhide HT2).call (below_drewN (Below.refl _ _) nq))
  clear q0 q1 q2 q3 q4 r0 r1 r2 r3 q5 HP2 HT2 HS2
  obtain ⟨W3, e3⟩ : ∃ X, w2.drewN nq = X := ⟨_, rfl⟩
  rw [e3] at HP3 HT3 ⊢
  clear e3
  go_wp2_with fail
  exact bodyPost_end (v := .tuple #[]) (by simp [results, Try.results53]) rfl (by first | exact ⟨d2, rfl, unhide HP3, (unhide HWS).trans (unhide HT3)⟩ | exact ⟨rfl, d2, unhide HP3, (unhide HWS).trans (unhide HT3)⟩)

set_option maxRecDepth 100000 in
set_option maxHeartbeats 2000000 in
theorem keep15_meets (w : World) (hv : Value) (hs : List Int) (d : Dat) (M : PastM) (tk op ob vl : Int) (now : Nat → Int) (hop : op = 15) (h : PastAt hv w d M) (hsh : Short M) (hsp : (M.pipes ob).gets.length ≠ (M.pipes ob).sends.length) (bb : Int) (eby : byM (M.pipes ob) = bb) (hbb : (bb == 0) = false) (hH : Holds hv w d hs) (hob0 : 0 ≤ ob) (hob1 : ob < (hs.length : Int)) (hd : Int) (ehd : hs.getD ob.toNat 0 = hd) (hhd : (hd == 0) = true) (MM : PastM) (eMM : { M with pipes := updI M.pipes ob (getM (M.pipes ob) now) } = MM) :
    Calls Try.prog 53 #[.pointer (some ⟨d.P, 0, none⟩), .agg #[.int .i64 tk, .int .i64 op, .int .i64 ob, .int .i64 vl], ckV now] w fun e w' => ∃ d', e = .returned (.tuple #[]) ∧ PastAt hv w' d' (joinT MM bb now) ∧ Stp d d' w w' := by
  subst hop
  have hb1 : ¬ bb = 0 := by simpa using hbb
  have hb2 : (bb != 0) = true := by simp [bne, hbb]
  obtain ⟨W, eW, hB, hE, hZ⟩ := two_new w (evB ⟨tk, 15, ob, vl⟩) (ckB now)
  have hP := h.below hB
  have hLE : d.lab w.heap.size = (0, 0) := h.hi _ (Nat.le_refl _)
  have hLR : d.lab (w.heap.size + 1) = (0, 0) := h.hi _ (Nat.le_succ _)
  obtain ⟨oj, rfl⟩ : ∃ j : Nat, ob = (j : Int) := ⟨ob.toNat, by omega⟩
  obtain ⟨hb, ho, hc, rfl, hbl, hlab, hcell⟩ := hH oj (by omega)
  obtain ⟨hn, ehn⟩ : ∃ X, hs.length = X := ⟨_, rfl⟩
  rw [show (oj : Int).toNat = oj from Int.toNat_natCast oj] at ehd
  rw [ehd] at hcell
  rw [ehn] at hP hob1 h ⊢
  have i0 : (0 : Int) ≤ (oj : Int) := by omega
  have i1 : (oj : Int) < (hn : Int) := hob1
  have hHC : ∀ (W' : World) (d1 : Dat), Stp d d1 w W' → W'.cell? ⟨hb, ho + oj, none⟩ = some (.int .i64 hd) := fun W' d1 h2 => cell_of hcell (h2.keep hb hbl hlab)
  clear hcell hob0 hob1 ehd ehn hbl hlab hH
  have HPd : Hid (PastAt (.slice (some ⟨hb, ho, none⟩) hn hc) W.drew d M) := hP.below (Below.refl _ _).drew
  have HSS : Hid (∀ (W' : World) (d1 : Dat) (M' : PastM), PastAt (.slice (some ⟨hb, ho, none⟩) hn hc) W' d1 M' → Stp d d1 W W' → (W'.cell? ⟨d.P, 0, none⟩ = some (.slice (some ⟨hb, ho, none⟩) hn hc) ∧ W'.cell? ⟨d.P, 1, none⟩ = some (.map (some d.Bt)) ∧ W'.cell? ⟨d.P, 2, none⟩ = some (.map (some d.Bp)) ∧ W'.cell? ⟨d.P, 3, none⟩ = some (.map (some d.Bl)) ∧ W'.cell? ⟨d.P, 4, none⟩ = some (.map (some d.Bg))) ∧ (W'.cell? ⟨w.heap.size, 0, none⟩ = some (.int .i64 tk) ∧ W'.cell? ⟨w.heap.size, 1, none⟩ = some (.int .i64 15) ∧ W'.cell? ⟨w.heap.size, 2, none⟩ = some (.int .i64 (oj : Int)) ∧ W'.cell? ⟨w.heap.size, 3, none⟩ = some (.int .i64 vl)) ∧ W'.rangeAt (w.heap.size + 1) 0 (ckL now)) := fun W' d1 M' h1 h2 => ⟨h1.cellsP h2, ev_cells (h2.at hE hLE), range_block (l := []) (r := []) (by have := h2.at hZ hLR; simpa [ckB] using this)⟩
  have HWS : Hid (Stp d d w W) := Stp.of_below hB
  have HSD : Hid (Stp d d W W.drew) := Stp.of_below (Below.refl _ _).drew
  have HS0 := hide (unhide HSS W.drew d M (unhide HPd) (unhide HSD))
  obtain ⟨x0, x1, x2, x3⟩ := ev_cells hE
  have HE := hide eW
  have HHC : Hid (∀ (W' : World) (d1 : Dat), Stp d d1 W W' → W'.cell? ⟨hb, ho + oj, none⟩ = some (.int .i64 hd)) := fun W' d1 h2 => hHC W' d1 ((Stp.of_below hB).trans h2)
  have HBY := hide eby
  have HMM := hide eMM
  clear eby eMM
  have hu := Try.und65
  have hi : (Try.prog.info? 65).map (·.size) = some (ckL now).length := by rw [ckL_len]; exact Try.size65
  clear eW hB hE hZ hP hLE hLR h hHC
  go_enter Try.func53, Try.ntmps53
  go_upto_region 1 with fail
  unfold evB ckB at HE
  rw [unhide HE]
  clear HE
  go_upto_region 7 with fail
  clear x0 x1 x2 x3
  go_region_held3 (fun W' => (W'.cell? ⟨d.P, 0, none⟩ = some (.slice (some ⟨hb, ho, none⟩) hn hc) ∧ W'.cell? ⟨d.P, 1, none⟩ = some (.map (some d.Bt)) ∧ W'.cell? ⟨d.P, 2, none⟩ = some (.map (some d.Bp)) ∧ W'.cell? ⟨d.P, 3, none⟩ = some (.map (some d.Bl)) ∧ W'.cell? ⟨d.P, 4, none⟩ = some (.map (some d.Bg))) ∧ (W'.cell? ⟨w.heap.size, 0, none⟩ = some (.int .i64 tk) ∧ W'.cell? ⟨w.heap.size, 1, none⟩ = some (.int .i64 15) ∧ W'.cell? ⟨w.heap.size, 2, none⟩ = some (.int .i64 (oj : Int)) ∧ W'.cell? ⟨w.heap.size, 3, none⟩ = some (.int .i64 vl)) ∧ W'.rangeAt (w.heap.size + 1) 0 (ckL now))
    (first | exact unhide HS0 | exact unhide HS1 | exact unhide HS2 | exact unhide HS3)
    (first
      | (go_at_call 54; (with_reducible refine Calls.mono (found_p _ _ d M (unhide HPd) (oj : Int)) ?_); rintro e w1 ⟨d1, b, rfl, hm, h1, h2⟩; have HP1 := hide h1; have HT1 := hide (Stp.trans (unhide HSD) h2); have HM1 := hide hm; have HS1 := hide (unhide HSS w1 d1 M h1 (unhide HT1)); clear h1 h2 hm)
      | (go_at_call 60; (with_reducible refine Calls.mono (keepGet_at _ _ d1 M (unhide HP1) (oj : Int) b (unhide HM1) hsh now hsp) ?_); rintro e w2 ⟨d2, rfl, h1, h2⟩; rw [unhide HBY]; rw [unhide HMM] at h1; have HP2 := hide h1; have HT2 := hide ((unhide HT1).trans h2); have HS2 := hide (unhide HSS w2 d2 _ h1 (unhide HT2)); clear h1 h2))
  go_wp2_with fail
  obtain ⟨⟨q0, q1, q2, q3, q4⟩, ⟨r0, r1, r2, r3⟩, -⟩ := unhide HS2
  have q5 := unhide HHC _ d2 (unhide HT2)
  go_quiet (fail)
  have HP3 := hide ((unhide HP2).below (below_drewN (Below.refl _ _) nq)); have HT3 := hide ((unhide HT2).call (below_drewN (Below.refl _ _) nq))
  clear q0 q1 q2 q3 q4 r0 r1 r2 r3 q5 HP2 HT2 HS2
  obtain ⟨W3, e3⟩ : ∃ X, w2.drewN nq = X := ⟨_, rfl⟩
  rw [e3] at HP3 HT3 ⊢
  clear e3
  go_upto_region 9 with fail
  have HPd3 : Hid (PastAt (.slice (some ⟨hb, ho, none⟩) hn hc) W3.drew d2 MM) := (unhide HP3).below (Below.refl _ _).drew
  have HTd3 : Hid (Stp d d2 W W3.drew) := (unhide HT3).call (Below.refl _ _).drew
  have HEt : Hid (d2.Bt = d.Bt) := (unhide HT3).Bt
  have HS4 := hide (unhide HSS W3.drew d2 _ (unhide HPd3) (unhide HTd3))
  go_region_held3 (fun W' => (W'.cell? ⟨d.P, 0, none⟩ = some (.slice (some ⟨hb, ho, none⟩) hn hc) ∧ W'.cell? ⟨d.P, 1, none⟩ = some (.map (some d.Bt)) ∧ W'.cell? ⟨d.P, 2, none⟩ = some (.map (some d.Bp)) ∧ W'.cell? ⟨d.P, 3, none⟩ = some (.map (some d.Bl)) ∧ W'.cell? ⟨d.P, 4, none⟩ = some (.map (some d.Bg))) ∧ (W'.cell? ⟨w.heap.size, 0, none⟩ = some (.int .i64 tk) ∧ W'.cell? ⟨w.heap.size, 1, none⟩ = some (.int .i64 15) ∧ W'.cell? ⟨w.heap.size, 2, none⟩ = some (.int .i64 (oj : Int)) ∧ W'.cell? ⟨w.heap.size, 3, none⟩ = some (.int .i64 vl)) ∧ W'.rangeAt (w.heap.size + 1) 0 (ckL now))
    (first | exact unhide HS4 | exact unhide HS5 | exact unhide HS6)
    (first
      | (go_at_call 50; rw [← unhide HEt]; (with_reducible refine Calls.mono (found_t _ _ d2 MM (unhide HPd3) bb) ?_); rintro e w5 ⟨d5, b5, rfl, hm, h1, h2⟩; have HP5 := hide h1; have HT5 := hide ((unhide HTd3).trans h2); have HM5 := hide hm; have HS5 := hide (unhide HSS w5 d5 _ h1 (unhide HT5)); clear h1 h2 hm)
      | (go_at_call 51; (with_reducible refine Calls.mono (joinT_at _ _ d5 MM (unhide HP5) bb b5 (unhide HM5) now) ?_); rintro e w6 ⟨d6, rfl, h1, h2⟩; have HP6 := hide h1; have HT6 := hide ((unhide HT5).trans h2); have HS6 := hide (unhide HSS w6 d6 _ h1 (unhide HT6)); clear h1 h2))
  go_wp2_with fail
  exact bodyPost_end (v := .tuple #[]) (by simp [results, Try.results53]) rfl (by first | exact ⟨d6, rfl, unhide HP6, (unhide HWS).trans (unhide HT6)⟩ | exact ⟨rfl, d6, unhide HP6, (unhide HWS).trans (unhide HT6)⟩)

/-- keep, whatever the event. -/
theorem keep_any (w : World) (hv : Value) (hs : List Int) (d : Dat) (M : PastM) (e : Ev) (now : Nat → Int) (h : PastAt hv w d M) (hH : Holds hv w d hs) (hsh : Short M) (he : EvOk hs e) :
    Calls Try.prog 53 #[.pointer (some ⟨d.P, 0, none⟩), evV e, ckV now] w fun r w' => ∃ d', r = .returned (.tuple #[]) ∧ PastAt hv w' d' (keepM hs M e now) ∧ Stp d d' w w' := by
  obtain ⟨tk, op, ob, vl⟩ := e
  unfold keepM evV
  dsimp only
  by_cases h11 : op = 11
  · rw [if_pos h11]
    exact keep11 w hv hs d M tk op ob vl now h11 h
  · rw [if_neg h11]
    by_cases h14 : op = 14
    · rw [if_pos h14]
      exact keep14 w hv hs d M tk op ob vl now h14 h hsh
    · rw [if_neg h14]
      by_cases h15 : op = 15
      · rw [if_pos h15]
        obtain ⟨h1, h2⟩ := he.pipe (Or.inr (Or.inl h15))
        by_cases hsp : (M.pipes ob).gets.length = (M.pipes ob).sends.length
        · rw [if_pos hsp]
          exact keep15_spent w hv hs d M tk op ob vl now h15 h hsp
        · rw [if_neg hsp]
          by_cases hb : byM (M.pipes ob) = 0
          · rw [if_neg (fun h => h.1 hb)]
            exact keep15_nobody w hv hs d M tk op ob vl now h15 h hsh hsp hb
          · by_cases hd : hs.getD ob.toNat 0 = 0
            · rw [if_pos ⟨hb, hd⟩]
              exact keep15_meets w hv hs d M tk op ob vl now h15 h hsh hsp _ rfl (by simpa using hb) hH h1 h2 _ rfl (by rw [hd]; rfl) _ rfl
            · rw [if_neg (fun h => hd h.2)]
              exact keep15_holds w hv hs d M tk op ob vl now h15 h hsh hsp _ rfl (by simpa using hb) hH h1 h2 _ rfl (by simpa using hd)
      · rw [if_neg h15]
        by_cases h16 : op = 16
        · rw [if_pos h16]
          exact keep16 w hv hs d M tk op ob vl now h16 h
        · rw [if_neg h16]
          by_cases h18 : op = 18
          · rw [if_pos h18]
            exact keep18 w hv hs d M tk op ob vl now h18 h
          · rw [if_neg h18]
            by_cases h19 : op = 19
            · rw [if_pos h19]
              exact keep19 w hv hs d M tk op ob vl now h19 h
            · rw [if_neg h19]
              exact keep_else w hv d M tk op ob vl now h11 h14 h15 h16 h18 h19 h
end Go.Proofs.Ytbnmeeabpjmcoaa
