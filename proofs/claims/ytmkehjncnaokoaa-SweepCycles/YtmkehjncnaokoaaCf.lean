/-
  sweep.cycle.do: what writes, loads and copies.
  sweep.cycle.do: loads and copies.
-/
import Derived.Test.YtmkehjncnaokoaaCd
namespace Go.Proofs.Ytmkehjncnaokoaa
open Go.RowKit

/-- A cycle, wherever it lies. -/
def CyX (lo : Nat) (w : World) (cb : Nat) (z : Int) (g : Gm) : Prop := ∃ lab b wb cw n bo co ar nr cr vl, CyL lo w lab cb z b wb cw n bo co ar nr cr vl g
theorem CyS.x {lo : Nat} {w : World} {lab : Nat → Nat} {sz cb : Nat} {z : Int} {b wb cw n bo co : Nat} {ar : Option Addr} {nr cr : Nat} {g : Gm} (h : CyS lo w lab sz cb z b wb cw n bo co ar nr cr g) : CyX lo w cb z g := by
  obtain ⟨lab', vl', h1, _⟩ := h
  exact ⟨_, _, _, _, _, _, _, _, _, _, _, h1⟩
theorem CyX.of {lo : Nat} {w : World} {lab : Nat → Nat} {cb : Nat} {z : Int} {b wb cw n bo co : Nat} {ar : Option Addr} {nr cr : Nat} {vl : Value} {g : Gm} (h : CyL lo w lab cb z b wb cw n bo co ar nr cr vl g) : CyX lo w cb z g := ⟨_, _, _, _, _, _, _, _, _, _, _, h⟩
/-- A new block's mark is 0. -/
theorem CyL.fresh {lo : Nat} {w : World} {lab : Nat → Nat} {cb : Nat} {z : Int} {b wb cw n bo co : Nat} {ar : Option Addr} {nr cr : Nat} {vl : Value} {g : Gm} (h : CyL lo w lab cb z b wb cw n bo co ar nr cr vl g) (o : Obj) : CyL lo (w.alloc o) (fun k => if k = w.heap.size then 0 else lab k) cb z b wb cw n bo co ar nr cr vl g :=
  (h.relab (fun k hk => if_neg (by omega))).keep ((Below.refl _ _).alloc (Nat.le_refl _) _)
theorem srcG_ok {g : Gm} (hg : GoodG g) {n nr : Nat} (hn : g.os.length = n) (hr : g.rs.length = nr) {a : Int} (ha : hasSrcB nr a = true) : -1 ≤ srcG g a ∧ srcG g a < (n : Int) := by
  unfold srcG
  by_cases e : a = -1
  · rw [if_pos e]; omega
  · rw [if_neg e]
    unfold hasSrcB at ha
    rw [decide_eq_false e] at ha
    obtain ⟨i, rfl, hi⟩ := hasRB_yes ha
    rw [regG_at, ← hn]
    exact hg.gh.ro _ (getD_mem (by rw [hr]; exact hi))

set_option maxRecDepth 100000 in
set_option maxHeartbeats 4000000 in
theorem do_1 {lo : Nat} {w : World} {lab : Nat → Nat} {cb : Nat} {z : Int} {b wb cw n bo co : Nat} {ar : Option Addr} {nr cr : Nat} {vl : Value} {g : Gm} (h : CyL lo w lab cb z b wb cw n bo co ar nr cr vl g) (hz0 : 0 ≤ z) (hz3 : z ≤ 3) (hg : GoodG g) (i f s : Nat) (vc : Int) (hi : i < nr) (hq : regG g (i : Int) = (f : Int)) (hf : f < n) (hs : s < (g.os.getD f []).length) (hv : hasSrcB nr vc = true) :
    Calls Try.prog 32 #[.pointer (some ⟨cb, 0, none⟩), .agg #[.int .i64 1, .int .i64 (i : Int), .int .i64 (s : Int), .int .i64 vc]] w fun e w' => e = .returned (.tuple #[]) ∧ CyX lo w' cb z ⟨g.os.set f ((g.os.getD f []).set s (srcG g vc)), g.rs, shB z g.mm ((g.os.getD f []).getD s 0) (srcG g vc)⟩ ∧ Below lo w w' := by
  have hx : Below w.heap.size w (w.alloc (.cells #[.int .i64 1, .int .i64 (i : Int), .int .i64 (s : Int), .int .i64 vc] 47)) := (Below.refl _ _).alloc (Nat.le_refl _) _
  have HQ := hide (new_block w (.cells #[.int .i64 1, .int .i64 (i : Int), .int .i64 (s : Int), .int .i64 vc] 47))
  have h0 := h.fresh (.cells #[.int .i64 1, .int .i64 (i : Int), .int .i64 (s : Int), .int .i64 vc] 47)
  obtain ⟨rb, ro, c, hc, _⟩ := h0.slotAt hf hs
  have hlow : lo ≤ w.heap.size := Nat.le_trans h.low.1 (Nat.le_of_lt h.clt)
  have hvx := srcG_ok hg h.hn h.hr hv
  obtain ⟨W0, e0⟩ : ∃ X, w.alloc (.cells #[.int .i64 1, .int .i64 (i : Int), .int .i64 (s : Int), .int .i64 vc] 47) = X := ⟨_, rfl⟩
  rw [e0] at hx HQ h0 hc
  have hwz : w.heap.size < W0.heap.size := size_of (unhide HQ)
  have HL : Hid (lo ≤ W0.heap.size) := Nat.le_trans hlow hx.size
  have HSL : Hid (∀ W, Below W0.heap.size W0 W → Calls Try.prog 44 #[.pointer (some ⟨cb, 0, none⟩), .int .i64 (i : Int), .int .i64 (s : Int)] W fun e w' => e = .returned (.pointer (some ⟨rb, ro + s, none⟩)) ∧ Below W.heap.size W w') := fun W hW => (slot_any W (h0.keep hW) i f s hi hq hf hs rb ro c (cell_of hc (hW.block bo h0.olt))).mono fun e w' ⟨h1, k, h2⟩ => ⟨h1, by rw [h2]; exact below_drewN (Below.refl _ _) _⟩
  have HSO : Hid (∀ W, Below W0.heap.size W0 W → Calls Try.prog 45 #[.pointer (some ⟨cb, 0, none⟩), .int .i64 vc] W fun e w' => e = .returned (.int .i64 (srcG g vc)) ∧ Below W.heap.size W w') := fun W hW => (source_any W (h0.keep hW) vc hv).mono fun e w' ⟨h1, h2⟩ => ⟨h1, by rw [h2]; exact Below.refl _ _⟩
  have HWR : Hid (∀ W, Below W0.heap.size W0 W → Calls Try.prog 43 #[.pointer (some ⟨cb, 0, none⟩), .pointer (some ⟨rb, ro + s, none⟩), .int .i64 (srcG g vc)] W fun e w' => e = .returned (.tuple #[]) ∧ CyX lo w' cb z ⟨g.os.set f ((g.os.getD f []).set s (srcG g vc)), g.rs, shB z g.mm ((g.os.getD f []).getD s 0) (srcG g vc)⟩ ∧ w'.heap[w.heap.size]? = some (.cells #[.int .i64 1, .int .i64 (i : Int), .int .i64 (s : Int), .int .i64 vc] 47 (0, 0)) ∧ Below lo W0 w') := fun W hW => (write_any (h0.keep hW) hz0 hz3 hg hf rfl hs (cell_of hc (hW.block bo h0.olt)) _ rfl _ hvx).mono fun e w' ⟨h1, ⟨_, _, h2⟩, h3, h4⟩ => ⟨h1, CyX.of h2, (h3 w.heap.size (Nat.lt_of_lt_of_le hwz hW.size) (if_pos rfl)).trans (keep_below (unhide HQ) hW), (hW.mono (unhide HL)).trans h4⟩
  have HSS : Hid (∀ W : World, W.heap[w.heap.size]? = some (.cells #[.int .i64 1, .int .i64 (i : Int), .int .i64 (s : Int), .int .i64 vc] 47 (0, 0)) → W.cell? ⟨w.heap.size, 1, none⟩ = some (.int .i64 (i : Int)) ∧ W.cell? ⟨w.heap.size, 2, none⟩ = some (.int .i64 (s : Int)) ∧ W.cell? ⟨w.heap.size, 3, none⟩ = some (.int .i64 vc)) := fun W hW => ⟨(block4 hW).1.2.1, (block4 hW).1.2.2.1, (block4 hW).1.2.2.2⟩
  have HE := hide e0
  have HX := hide hx
  have HB0 : Hid (Below W0.heap.size W0 W0) := Below.refl _ _
  have HB1 : Hid (Below W0.heap.size W0 W0.drew) := (Below.refl _ _).drew
  have HLW := hide hlow
  clear e0 h h0 hg hx hc hv hvx hq hf hs hlow hwz
  go_enter Try.func32, Try.ntmps32
  go_upto_region 1 with fail
  rw [unhide HE]
  clear HE
  obtain ⟨⟨q0, q1, q2, q3⟩, -, ql⟩ := block4 (unhide HQ)
  go_upto_region 3 with fail
  clear q0 q1 q2 q3 ql
  go_region_held3 (fun W => W.cell? ⟨w.heap.size, 1, none⟩ = some (.int .i64 (i : Int)) ∧ W.cell? ⟨w.heap.size, 2, none⟩ = some (.int .i64 (s : Int)) ∧ W.cell? ⟨w.heap.size, 3, none⟩ = some (.int .i64 vc))
    (first | with_reducible exact unhide HSS _ (unhide HQ) | with_reducible exact unhide HSS _ (keep_below (unhide HQ) (unhide HB1)) | with_reducible exact unhide HSS _ (unhide HQ9) | with_reducible exact unhide HSS _ (keep_below (unhide HQ) (unhide HY4)) | with_reducible exact unhide HSS _ (keep_below (unhide HQ) (unhide HY5)) | with_reducible exact unhide HSS _ (keep_below (unhide HQ) (unhide HY4).drew) | with_reducible exact unhide HSS _ (keep_below (unhide HQ) (unhide HY5).drew))
    (first | (go_at_call 44; (with_reducible refine Calls.mono (unhide HSL _ (by first | with_reducible exact unhide HY5 | with_reducible exact (unhide HY5).drew | with_reducible exact unhide HB1 | with_reducible exact unhide HB0)) ?_); rintro e w4 ⟨rfl, hb4⟩; have HY4 : Hid (Below W0.heap.size W0 w4) := Below.next (by first | with_reducible exact unhide HY5 | with_reducible exact (unhide HY5).drew | with_reducible exact unhide HB1 | with_reducible exact unhide HB0) hb4 (Nat.le_refl _); clear hb4) | (go_at_call 45; (with_reducible refine Calls.mono (unhide HSO _ (by first | with_reducible exact unhide HY4 | with_reducible exact (unhide HY4).drew | with_reducible exact unhide HB1 | with_reducible exact unhide HB0)) ?_); rintro e w5 ⟨rfl, hb5⟩; have HY5 : Hid (Below W0.heap.size W0 w5) := Below.next (by first | with_reducible exact unhide HY4 | with_reducible exact (unhide HY4).drew | with_reducible exact unhide HB1 | with_reducible exact unhide HB0) hb5 (Nat.le_refl _); clear hb5) | (go_at_call 43; (with_reducible refine Calls.mono (unhide HWR _ (by first | with_reducible exact unhide HY4 | with_reducible exact (unhide HY4).drew | with_reducible exact unhide HY5 | with_reducible exact (unhide HY5).drew)) ?_); rintro e w9 ⟨rfl, hc9, hq9, hb9⟩; have HC9 := hide hc9; have HQ9 := hide hq9; have HB9 := hide hb9; clear hc9 hq9 hb9))
  all_goals (first
    | exact bodyPost_end (v := .tuple #[]) (by simp [results]) rfl ⟨rfl, unhide HC9, ((unhide HX).mono (unhide HLW)).trans (unhide HB9)⟩
    | (go_wp2_with fail; exact bodyPost_end (v := .tuple #[]) (by simp [results, Try.results32]) rfl ⟨rfl, unhide HC9, ((unhide HX).mono (unhide HLW)).trans (unhide HB9)⟩))


set_option maxRecDepth 100000 in
set_option maxHeartbeats 4000000 in
theorem do_2 {lo : Nat} {w : World} {lab : Nat → Nat} {cb : Nat} {z : Int} {b wb cw n bo co : Nat} {ar : Option Addr} {nr cr : Nat} {vl : Value} {g : Gm} (h : CyL lo w lab cb z b wb cw n bo co ar nr cr vl g) (_hg : GoodG g) (ta : Nat) (hta : ta < nr) (i f s : Nat) (hi : i < nr) (hq : regG g (i : Int) = (f : Int)) (hf : f < n) (hs : s < (g.os.getD f []).length) :
    Calls Try.prog 32 #[.pointer (some ⟨cb, 0, none⟩), .agg #[.int .i64 2, .int .i64 (ta : Int), .int .i64 (s : Int), .int .i64 (i : Int)]] w fun e w' => e = .returned (.tuple #[]) ∧ CyX lo w' cb z ⟨g.os, g.rs.set ta ((g.os.getD f []).getD s 0), g.mm⟩ ∧ Below lo w w' := by
  obtain ⟨u, hu⟩ : ∃ u, ((g.os.getD f []).getD s 0) = u := ⟨_, rfl⟩
  rw [hu]
  have hx : Below w.heap.size w (w.alloc (.cells #[.int .i64 2, .int .i64 (ta : Int), .int .i64 (s : Int), .int .i64 (i : Int)] 47)) := (Below.refl _ _).alloc (Nat.le_refl _) _
  have HQ := hide (new_block w (.cells #[.int .i64 2, .int .i64 (ta : Int), .int .i64 (s : Int), .int .i64 (i : Int)] 47))
  have h0 := h.fresh (.cells #[.int .i64 2, .int .i64 (ta : Int), .int .i64 (s : Int), .int .i64 (i : Int)] 47)
  have hlow : lo ≤ w.heap.size := Nat.le_trans h.low.1 (Nat.le_of_lt h.clt)
  obtain ⟨gb, go, ear, _, _, hl5, hlo5, hlt5⟩ := h.regAt hta
  have hl5b := h0.rlb gb (by rw [ear]; rfl)
  obtain ⟨rb, ro, c, hc, hcell, _, hlr, _, hrlt⟩ := h0.slotAt hf hs
  have hl := h0.lbs
  have hn1 : cb ≠ gb := fun e => by rw [e] at hl; omega
  have hn2 : b ≠ gb := fun e => by rw [e] at hl; omega
  have hn3 : w.heap.size ≠ gb := by omega
  have hn4 : rb ≠ gb := fun e => by rw [e] at hlr; omega
  clear hl5b hl5 hl
  obtain ⟨W0, e0⟩ : ∃ X, w.alloc (.cells #[.int .i64 2, .int .i64 (ta : Int), .int .i64 (s : Int), .int .i64 (i : Int)] 47) = X := ⟨_, rfl⟩
  rw [e0] at hx HQ h0 hc hcell hrlt
  rw [hu] at hcell
  have HCE := hide hcell
  have HLW := hide hlow
  have HSL : Hid (∀ W, Below W0.heap.size W0 W → Calls Try.prog 44 #[.pointer (some ⟨cb, 0, none⟩), .int .i64 (i : Int), .int .i64 (s : Int)] W fun e w' => e = .returned (.pointer (some ⟨rb, ro + s, none⟩)) ∧ Below W.heap.size W w') := fun W hW => (slot_any W (h0.keep hW) i f s hi hq hf hs rb ro c (cell_of hc (hW.block bo h0.olt))).mono fun e w' ⟨h1, k, h2⟩ => ⟨h1, by rw [h2]; exact below_drewN (Below.refl _ _) _⟩
  have HSS : Hid (∀ W : World, Below W0.heap.size W0 W → W.cell? ⟨cb, 0, none⟩ = some (.pointer (some ⟨b, 0, none⟩)) ∧ W.cell? ⟨b, 1, none⟩ = some (.slice (some ⟨gb, go, none⟩) nr cr) ∧ W.cell? ⟨w.heap.size, 1, none⟩ = some (.int .i64 (ta : Int)) ∧ W.cell? ⟨w.heap.size, 2, none⟩ = some (.int .i64 (s : Int)) ∧ W.cell? ⟨w.heap.size, 3, none⟩ = some (.int .i64 (i : Int)) ∧ W.cell? ⟨rb, ro + s, none⟩ = some (.int .i64 u)) := fun W hW => ⟨(block2 (keep_below h0.cyc hW)).1, by rw [← ear]; exact (block4 (keep_below h0.mka.blk hW)).1.2.1, (block4 (keep_below (unhide HQ) hW)).1.2.1, (block4 (keep_below (unhide HQ) hW)).1.2.2.1, (block4 (keep_below (unhide HQ) hW)).1.2.2.2, cell_of (unhide HCE) (hW.block rb hrlt)⟩
  have HS3 : Hid (∀ (W : World) (v : Value), (W.cell? ⟨cb, 0, none⟩ = some (.pointer (some ⟨b, 0, none⟩)) ∧ W.cell? ⟨b, 1, none⟩ = some (.slice (some ⟨gb, go, none⟩) nr cr) ∧ W.cell? ⟨w.heap.size, 1, none⟩ = some (.int .i64 (ta : Int)) ∧ W.cell? ⟨w.heap.size, 2, none⟩ = some (.int .i64 (s : Int)) ∧ W.cell? ⟨w.heap.size, 3, none⟩ = some (.int .i64 (i : Int)) ∧ W.cell? ⟨rb, ro + s, none⟩ = some (.int .i64 u)) → (W.setCell ⟨gb, go + ta, none⟩ v).cell? ⟨cb, 0, none⟩ = some (.pointer (some ⟨b, 0, none⟩)) ∧ (W.setCell ⟨gb, go + ta, none⟩ v).cell? ⟨b, 1, none⟩ = some (.slice (some ⟨gb, go, none⟩) nr cr) ∧ (W.setCell ⟨gb, go + ta, none⟩ v).cell? ⟨w.heap.size, 1, none⟩ = some (.int .i64 (ta : Int)) ∧ (W.setCell ⟨gb, go + ta, none⟩ v).cell? ⟨w.heap.size, 2, none⟩ = some (.int .i64 (s : Int)) ∧ (W.setCell ⟨gb, go + ta, none⟩ v).cell? ⟨w.heap.size, 3, none⟩ = some (.int .i64 (i : Int)) ∧ (W.setCell ⟨gb, go + ta, none⟩ v).cell? ⟨rb, ro + s, none⟩ = some (.int .i64 u)) := fun W v hW => ⟨cell_other hW.1 (Or.inl hn1) v, cell_other hW.2.1 (Or.inl hn2) v, cell_other hW.2.2.1 (Or.inl hn3) v, cell_other hW.2.2.2.1 (Or.inl hn3) v, cell_other hW.2.2.2.2.1 (Or.inl hn3) v, cell_other hW.2.2.2.2.2 (Or.inl hn4) v⟩
  have HFZ : Hid (∀ W : World, Below W0.heap.size W0 W → ∃ x, W.cell? ⟨gb, go + ta, none⟩ = some (.int .i64 x) ∧ W.frozen? ⟨gb, go + ta, none⟩ = false) := fun W hW => by
    obtain ⟨gb', go', ear', p1, p2, _⟩ := (h0.keep hW).regAt hta
    rw [ear] at ear'
    cases ear'
    exact ⟨_, p1, p2⟩
  have HFI : Hid (∀ W : World, Below W0.heap.size W0 W → CyX lo (W.setCell ⟨gb, go + ta, none⟩ (.int .i64 u)) cb z ⟨g.os, g.rs.set ta u, g.mm⟩) := fun W hW => CyX.of ((h0.keep hW).setReg hta ear u)
  have HE := hide e0
  have HX := hide hx
  have HL0 : Hid (w.heap.size ≤ W0.heap.size) := hx.size
  have HB0 : Hid (Below W0.heap.size W0 W0) := Below.refl _ _
  have HB1 : Hid (Below W0.heap.size W0 W0.drew) := (Below.refl _ _).drew
  have j1 : (0 : Int) ≤ (ta : Int) := by omega
  have j2 : (ta : Int) < (nr : Int) := by omega
  clear e0 h h0 hx hq hf hs hlow ear hn1 hn2 hn3 hu
  go_enter Try.func32, Try.ntmps32
  go_upto_region 1 with fail
  rw [unhide HE]
  clear HE
  obtain ⟨⟨q0, q1, q2, q3⟩, -, ql⟩ := block4 (unhide HQ)
  go_upto_region 5 with fail
  clear q0 q1 q2 q3 ql
  go_region_held3 (fun W => W.cell? ⟨cb, 0, none⟩ = some (.pointer (some ⟨b, 0, none⟩)) ∧ W.cell? ⟨b, 1, none⟩ = some (.slice (some ⟨gb, go, none⟩) nr cr) ∧ W.cell? ⟨w.heap.size, 1, none⟩ = some (.int .i64 (ta : Int)) ∧ W.cell? ⟨w.heap.size, 2, none⟩ = some (.int .i64 (s : Int)) ∧ W.cell? ⟨w.heap.size, 3, none⟩ = some (.int .i64 (i : Int)) ∧ W.cell? ⟨rb, ro + s, none⟩ = some (.int .i64 u))
    (first | with_reducible exact unhide HSS _ (unhide HB0) | with_reducible exact unhide HSS _ (unhide HB1) | with_reducible exact unhide HSS _ (unhide HY4) | with_reducible exact unhide HSS _ (unhide HY4).drew | with_reducible exact unhide HS3 _ _ (unhide HSS _ (unhide HY4)) | with_reducible exact unhide HS3 _ _ (unhide HSS _ (unhide HY4).drew))
    (first | (go_at_call 44; (with_reducible refine Calls.mono (unhide HSL _ (by first | with_reducible exact unhide HB1 | with_reducible exact unhide HB0)) ?_); rintro e w4 ⟨rfl, hb4⟩; have HY4 : Hid (Below W0.heap.size W0 w4) := Below.next (by first | with_reducible exact unhide HB1 | with_reducible exact unhide HB0) hb4 (Nat.le_refl _); obtain ⟨x4, g4, f4⟩ := unhide HFZ _ (unhide HY4); clear hb4))
  have hlo5' : lo ≤ gb := hlo5
  all_goals (first
    | exact bodyPost_end (v := .tuple #[]) (by simp [results]) rfl ⟨rfl, unhide HFI _ (unhide HY4), (((unhide HX).mono (unhide HLW)).trans ((unhide HY4).mono (Nat.le_trans (unhide HLW) (unhide HL0)))).setCell (p := ⟨gb, go + ta, none⟩) hlo5' _⟩
    | (go_wp2_with fail; exact bodyPost_end (v := .tuple #[]) (by simp [results, Try.results32]) rfl ⟨rfl, unhide HFI _ (unhide HY4), (((unhide HX).mono (unhide HLW)).trans ((unhide HY4).mono (Nat.le_trans (unhide HLW) (unhide HL0)))).setCell (p := ⟨gb, go + ta, none⟩) hlo5' _⟩))

set_option maxRecDepth 100000 in
set_option maxHeartbeats 4000000 in
theorem do_3 {lo : Nat} {w : World} {lab : Nat → Nat} {cb : Nat} {z : Int} {b wb cw n bo co : Nat} {ar : Option Addr} {nr cr : Nat} {vl : Value} {g : Gm} (h : CyL lo w lab cb z b wb cw n bo co ar nr cr vl g) (_hg : GoodG g) (ta : Nat) (hta : ta < nr) (vc : Int) (hv : hasSrcB nr vc = true) :
    Calls Try.prog 32 #[.pointer (some ⟨cb, 0, none⟩), .agg #[.int .i64 3, .int .i64 (ta : Int), .int .i64 0, .int .i64 vc]] w fun e w' => e = .returned (.tuple #[]) ∧ CyX lo w' cb z ⟨g.os, g.rs.set ta (srcG g vc), g.mm⟩ ∧ Below lo w w' := by
  obtain ⟨u, hu⟩ : ∃ u, (srcG g vc) = u := ⟨_, rfl⟩
  rw [hu]
  have hx : Below w.heap.size w (w.alloc (.cells #[.int .i64 3, .int .i64 (ta : Int), .int .i64 0, .int .i64 vc] 47)) := (Below.refl _ _).alloc (Nat.le_refl _) _
  have HQ := hide (new_block w (.cells #[.int .i64 3, .int .i64 (ta : Int), .int .i64 0, .int .i64 vc] 47))
  have h0 := h.fresh (.cells #[.int .i64 3, .int .i64 (ta : Int), .int .i64 0, .int .i64 vc] 47)
  have hlow : lo ≤ w.heap.size := Nat.le_trans h.low.1 (Nat.le_of_lt h.clt)
  obtain ⟨gb, go, ear, _, _, hl5, hlo5, hlt5⟩ := h.regAt hta
  have hl5b := h0.rlb gb (by rw [ear]; rfl)
  have hl := h0.lbs
  have hn1 : cb ≠ gb := fun e => by rw [e] at hl; omega
  have hn2 : b ≠ gb := fun e => by rw [e] at hl; omega
  have hn3 : w.heap.size ≠ gb := by omega
  clear hl5b hl5 hl
  obtain ⟨W0, e0⟩ : ∃ X, w.alloc (.cells #[.int .i64 3, .int .i64 (ta : Int), .int .i64 0, .int .i64 vc] 47) = X := ⟨_, rfl⟩
  rw [e0] at hx HQ h0
  have HLW := hide hlow
  have HSL : Hid (∀ W, Below W0.heap.size W0 W → Calls Try.prog 45 #[.pointer (some ⟨cb, 0, none⟩), .int .i64 vc] W fun e w' => e = .returned (.int .i64 u) ∧ Below W.heap.size W w') := fun W hW => (source_any W (h0.keep hW) vc hv).mono fun e w' ⟨h1, h2⟩ => ⟨by rw [← hu]; exact h1, by rw [h2]; exact Below.refl _ _⟩
  have HSS : Hid (∀ W : World, Below W0.heap.size W0 W → W.cell? ⟨cb, 0, none⟩ = some (.pointer (some ⟨b, 0, none⟩)) ∧ W.cell? ⟨b, 1, none⟩ = some (.slice (some ⟨gb, go, none⟩) nr cr) ∧ W.cell? ⟨w.heap.size, 1, none⟩ = some (.int .i64 (ta : Int)) ∧ W.cell? ⟨w.heap.size, 3, none⟩ = some (.int .i64 vc)) := fun W hW => ⟨(block2 (keep_below h0.cyc hW)).1, by rw [← ear]; exact (block4 (keep_below h0.mka.blk hW)).1.2.1, (block4 (keep_below (unhide HQ) hW)).1.2.1, (block4 (keep_below (unhide HQ) hW)).1.2.2.2⟩
  have HS3 : Hid (∀ (W : World) (v : Value), (W.cell? ⟨cb, 0, none⟩ = some (.pointer (some ⟨b, 0, none⟩)) ∧ W.cell? ⟨b, 1, none⟩ = some (.slice (some ⟨gb, go, none⟩) nr cr) ∧ W.cell? ⟨w.heap.size, 1, none⟩ = some (.int .i64 (ta : Int)) ∧ W.cell? ⟨w.heap.size, 3, none⟩ = some (.int .i64 vc)) → (W.setCell ⟨gb, go + ta, none⟩ v).cell? ⟨cb, 0, none⟩ = some (.pointer (some ⟨b, 0, none⟩)) ∧ (W.setCell ⟨gb, go + ta, none⟩ v).cell? ⟨b, 1, none⟩ = some (.slice (some ⟨gb, go, none⟩) nr cr) ∧ (W.setCell ⟨gb, go + ta, none⟩ v).cell? ⟨w.heap.size, 1, none⟩ = some (.int .i64 (ta : Int)) ∧ (W.setCell ⟨gb, go + ta, none⟩ v).cell? ⟨w.heap.size, 3, none⟩ = some (.int .i64 vc)) := fun W v hW => ⟨cell_other hW.1 (Or.inl hn1) v, cell_other hW.2.1 (Or.inl hn2) v, cell_other hW.2.2.1 (Or.inl hn3) v, cell_other hW.2.2.2 (Or.inl hn3) v⟩
  have HFZ : Hid (∀ W : World, Below W0.heap.size W0 W → ∃ x, W.cell? ⟨gb, go + ta, none⟩ = some (.int .i64 x) ∧ W.frozen? ⟨gb, go + ta, none⟩ = false) := fun W hW => by
    obtain ⟨gb', go', ear', p1, p2, _⟩ := (h0.keep hW).regAt hta
    rw [ear] at ear'
    cases ear'
    exact ⟨_, p1, p2⟩
  have HFI : Hid (∀ W : World, Below W0.heap.size W0 W → CyX lo (W.setCell ⟨gb, go + ta, none⟩ (.int .i64 u)) cb z ⟨g.os, g.rs.set ta u, g.mm⟩) := fun W hW => CyX.of ((h0.keep hW).setReg hta ear u)
  have HE := hide e0
  have HX := hide hx
  have HL0 : Hid (w.heap.size ≤ W0.heap.size) := hx.size
  have HB0 : Hid (Below W0.heap.size W0 W0) := Below.refl _ _
  have HB1 : Hid (Below W0.heap.size W0 W0.drew) := (Below.refl _ _).drew
  have j1 : (0 : Int) ≤ (ta : Int) := by omega
  have j2 : (ta : Int) < (nr : Int) := by omega
  clear e0 h h0 hx hv hlow ear hn1 hn2 hn3 hu
  go_enter Try.func32, Try.ntmps32
  go_upto_region 1 with fail
  rw [unhide HE]
  clear HE
  obtain ⟨⟨q0, q1, q2, q3⟩, -, ql⟩ := block4 (unhide HQ)
  go_upto_region 7 with fail
  clear q0 q1 q2 q3 ql
  go_region_held3 (fun W => W.cell? ⟨cb, 0, none⟩ = some (.pointer (some ⟨b, 0, none⟩)) ∧ W.cell? ⟨b, 1, none⟩ = some (.slice (some ⟨gb, go, none⟩) nr cr) ∧ W.cell? ⟨w.heap.size, 1, none⟩ = some (.int .i64 (ta : Int)) ∧ W.cell? ⟨w.heap.size, 3, none⟩ = some (.int .i64 vc))
    (first | with_reducible exact unhide HSS _ (unhide HB0) | with_reducible exact unhide HSS _ (unhide HB1) | with_reducible exact unhide HSS _ (unhide HY4) | with_reducible exact unhide HSS _ (unhide HY4).drew | with_reducible exact unhide HS3 _ _ (unhide HSS _ (unhide HY4)) | with_reducible exact unhide HS3 _ _ (unhide HSS _ (unhide HY4).drew))
    (first | (go_at_call 45; (with_reducible refine Calls.mono (unhide HSL _ (by first | with_reducible exact unhide HB1 | with_reducible exact unhide HB0)) ?_); rintro e w4 ⟨rfl, hb4⟩; have HY4 : Hid (Below W0.heap.size W0 w4) := Below.next (by first | with_reducible exact unhide HB1 | with_reducible exact unhide HB0) hb4 (Nat.le_refl _); obtain ⟨x4, g4, f4⟩ := unhide HFZ _ (unhide HY4); clear hb4))
  have hlo5' : lo ≤ gb := hlo5
  all_goals (first
    | exact bodyPost_end (v := .tuple #[]) (by simp [results]) rfl ⟨rfl, unhide HFI _ (unhide HY4), (((unhide HX).mono (unhide HLW)).trans ((unhide HY4).mono (Nat.le_trans (unhide HLW) (unhide HL0)))).setCell (p := ⟨gb, go + ta, none⟩) hlo5' _⟩
    | (go_wp2_with fail; exact bodyPost_end (v := .tuple #[]) (by simp [results, Try.results32]) rfl ⟨rfl, unhide HFI _ (unhide HY4), (((unhide HX).mono (unhide HLW)).trans ((unhide HY4).mono (Nat.le_trans (unhide HLW) (unhide HL0)))).setCell (p := ⟨gb, go + ta, none⟩) hlo5' _⟩))
end Go.Proofs.Ytmkehjncnaokoaa
