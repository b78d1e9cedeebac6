/-
  Pasts beside a call's own blocks; the method ahead.
-/
import Derived.Test.YtbnmeeabpjmcoaaM
namespace Go.Proofs.Ytbnmeeabpjmcoaa
open Go.RowKit

def evV (e : Ev) : Value := .agg #[.int .i64 e.task, .int .i64 e.op, .int .i64 e.obj, .int .i64 e.val]
def evB (ev : Ev) : Obj := .cells #[.int .i64 ev.task, .int .i64 ev.op, .int .i64 ev.obj, .int .i64 ev.val] 41 (0, 0)
theorem step_want {ops : Array Oper} {o : Oper} {a : Act} {w : World} {Kn : Act → World → Prop} {Q : Exit → Act → World → Prop} {E : Prop} (hw : Region.wanted o (yielded ops a.tmps) = true) (h : Oper.wp Try.prog o a w Kn Q) : if Region.wanted o (yielded ops a.tmps) = true then Oper.wp Try.prog o a w Kn Q else E := by
  rw [if_pos hw]
  exact h
/-- What each pipe holds, in a list that is not the past's own. -/
def Holds (hv : Value) (w : World) (d : Dat) (hs : List Int) : Prop := ∀ i, i < hs.length → ∃ b off c, hv = .slice (some ⟨b, off, none⟩) hs.length c ∧ b < w.heap.size ∧ d.lab b = (0, 0) ∧ w.cell? ⟨b, off + i, none⟩ = some (.int .i64 (hs.getD i 0))
theorem Holds.stp {hv : Value} {w w' : World} {d d' : Dat} {hs : List Int} (h : Holds hv w d hs) (hS : Stp d d' w w') : Holds hv w' d' hs := fun i hi => by
  obtain ⟨b, off, c, h1, h2, h3, h4⟩ := h i hi
  exact ⟨b, off, c, h1, Nat.lt_of_lt_of_le h2 hS.size, (hS.lab b h2).trans h3, cell_of h4 (hS.keep b h2 h3)⟩
theorem PastAt.cellsP {hv : Value} {w w0 : World} {d d1 : Dat} {M : PastM} (h : PastAt hv w d1 M) (hS : Stp d d1 w0 w) : (w.cell? ⟨d.P, 0, none⟩ = some hv ∧ w.cell? ⟨d.P, 1, none⟩ = some (.map (some d.Bt)) ∧ w.cell? ⟨d.P, 2, none⟩ = some (.map (some d.Bp)) ∧ w.cell? ⟨d.P, 3, none⟩ = some (.map (some d.Bl)) ∧ w.cell? ⟨d.P, 4, none⟩ = some (.map (some d.Bg))) := by
  have hb := h.blk
  rw [hS.P, hS.Bt, hS.Bp, hS.Bl, hS.Bg] at hb
  refine ⟨?_, ?_, ?_, ?_, ?_⟩ <;> (simp only [World.cell?, hb]; rfl)
theorem ev_cells {w : World} {E : Nat} {ev : Ev} (h : w.heap[E]? = some (evB ev)) : w.cell? ⟨E, 0, none⟩ = some (.int .i64 ev.task) ∧ w.cell? ⟨E, 1, none⟩ = some (.int .i64 ev.op) ∧ w.cell? ⟨E, 2, none⟩ = some (.int .i64 ev.obj) ∧ w.cell? ⟨E, 3, none⟩ = some (.int .i64 ev.val) := by
  unfold evB at h
  refine ⟨?_, ?_, ?_, ?_⟩ <;> (simp only [World.cell?, h]; rfl)
theorem PastAt.aside {hv : Value} {w : World} {d : Dat} {M : PastM} (h : PastAt hv w d M) {R o : Nat} (vs : List Value) (hR : d.lab R = (0, 0)) : PastAt hv (w.setCells R o vs) d M :=
  h.frame (by rw [setCells_size]; exact Nat.le_refl _) fun j _ hl => setCells_keep R vs o w j (fun e => hl (by rw [e]; exact hR))
theorem Stp.aside {d d' : Dat} {w w' : World} (h : Stp d d' w w') {R o : Nat} (vs : List Value) (hR : w.heap.size ≤ R) : Stp d d' w (w'.setCells R o vs) := by
  have hb := below_setCells (B := w.heap.size) (w0 := w') hR vs o w' (Below.refl _ _)
  exact ⟨hb.os.trans h.os, hb.tape.trans h.tape, hb.output.trans h.output, Nat.le_trans h.size hb.size, h.lab, fun j hj hl => (hb.block j hj).trans (h.keep j hj hl), h.P, h.Bt, h.Bp, h.Bl, h.Bg, h.kt⟩
/-- How long the lists of a past are, at most. -/
def Short (M : PastM) : Prop := ∀ k, (M.pipes k).sends.length ≤ 100000 ∧ (M.pipes k).gets.length ≤ (M.pipes k).sends.length

theorem Short.s {M : PastM} (h : Short M) (k : Int) : (M.pipes k).sends.length ≤ 100000 := (h k).1
theorem Short.g {M : PastM} (h : Short M) (k : Int) : (M.pipes k).gets.length ≤ (M.pipes k).sends.length := (h k).2
theorem aheadOfSend_at {w : World} {lab : Nat → Nat × Int} {sv gv : Value} {k : Int} {b : Nat} {p : PipeM} (h : PipeAt w lab sv gv k b p) (hs : p.sends.length ≤ 100000) (hg : p.gets.length ≤ p.sends.length) (n : Int) (h0 : 0 ≤ n) (h1 : n ≤ 100) :
    Calls Try.prog 55 #[.pointer (some ⟨b, 0, none⟩), .int .i64 n] w fun e w' => e = .returned (ckV (aheadS p n)) ∧ Below w.heap.size w w' := by
  obtain ⟨a1, k1, e1⟩ := h.sends.form
  obtain ⟨a2, k2, e2⟩ := h.gets.form
  have hb := h.blk
  have hgi := h.gets.isl
  rw [e1, e2] at hb
  rw [e2] at hgi
  obtain ⟨m, rfl⟩ : ∃ m : Nat, n = (m : Int) := ⟨n.toNat, by omega⟩
  unfold aheadS
  by_cases hlt : p.sends.length < m
  · rw [if_pos (Or.inl (by omega))]
    exact aheadOfSend_n w b a1 _ k1 a2 _ k2 p.shut m hs (by omega) hlt hb
  · by_cases hq : p.gets.length ≤ p.sends.length - m
    · rw [if_pos (Or.inr (by omega))]
      exact aheadOfSend_m w b a1 _ k1 a2 _ k2 p.shut m hs (by omega) (p.sends.length - m) (by omega) hq hb
    · rw [if_neg (by omega)]
      have := aheadOfSend1 w b a1 _ k1 a2 _ k2 p.shut p.gets m (p.sends.length - m) hs (by omega) (by omega) (by omega) hb hgi
      rw [show ((p.sends.length : Int) - (m : Int)).toNat = p.sends.length - m by omega]
      exact this
theorem aheadOfGet_at {w : World} {lab : Nat → Nat × Int} {sv gv : Value} {k : Int} {b : Nat} {p : PipeM} (h : PipeAt w lab sv gv k b p) (hs : p.sends.length ≤ 100000) (hg : p.gets.length ≤ p.sends.length) :
    Calls Try.prog 56 #[.pointer (some ⟨b, 0, none⟩)] w fun e w' => e = .returned (ckV (aheadG p)) ∧ Below w.heap.size w w' := by
  obtain ⟨a1, k1, e1⟩ := h.sends.form
  obtain ⟨a2, k2, e2⟩ := h.gets.form
  have hb := h.blk
  have hsi := h.sends.isl
  rw [e1, e2] at hb
  rw [e1] at hsi
  unfold aheadG
  by_cases hq : p.gets.length = p.sends.length
  · rw [if_pos hq]
    exact aheadOfGet1 w b a1 _ k1 a2 _ k2 p.shut hq hb
  · rw [if_neg hq]
    exact aheadOfGet0 w b a1 _ k1 a2 _ k2 p.shut p.sends (by omega) hs hb hsi

set_option maxRecDepth 100000 in
set_option maxHeartbeats 2000000 in
theorem ahead14 (w : World) (hv : Value) (hs : List Int) (d : Dat) (M : PastM) (tk op ob vl : Int) (hop : op = 14) (h : PastAt hv w d M) (hH : Holds hv w d hs) (hob0 : 0 ≤ ob) (hob1 : ob < (hs.length : Int)) (hd : Int) (ehd : hs.getD ob.toNat 0 = hd) (hd0 : 0 ≤ hd) (hd1 : hd ≤ 100) (hsh : Short M) (cc : Nat → Int) (ecc : aheadS (M.pipes ob) hd = cc) :
    Calls Try.prog 52 #[.pointer (some ⟨d.P, 0, none⟩), .agg #[.int .i64 tk, .int .i64 op, .int .i64 ob, .int .i64 vl]] w fun e w' => ∃ d', e = .returned (ckV cc) ∧ PastAt hv w' d' M ∧ Stp d d' w w' := by
  subst hop
  obtain ⟨W, eW, hB, hE, hZ⟩ := two_new w (evB ⟨tk, 14, ob, vl⟩) (ckB ck0)
  have hP := h.below hB
  have hLE : d.lab w.heap.size = (0, 0) := h.hi _ (Nat.le_refl _)
  have hLR : d.lab (w.heap.size + 1) = (0, 0) := h.hi _ (Nat.le_succ _)
  obtain ⟨oj, rfl⟩ : ∃ j : Nat, ob = (j : Int) := ⟨ob.toNat, by omega⟩
  obtain ⟨hb, ho, hc, rfl, hbl, hlab, hcell⟩ := hH oj (by omega)
  obtain ⟨hn, ehn⟩ : ∃ X, hs.length = X := ⟨_, rfl⟩
  rw [show (oj : Int).toNat = oj from Int.toNat_natCast oj] at ehd
  rw [ehd] at hcell
  rw [ehn] at hP hob1 h ⊢
  have i0 : (0 : Int) ≤ (oj : Int) := by omega
  have i1 : (oj : Int) < (hn : Int) := hob1
  have hHC : ∀ (W' : World) (d1 : Dat), Stp d d1 w W' → W'.cell? ⟨hb, ho + oj, none⟩ = some (.int .i64 hd) := fun W' d1 h2 => cell_of hcell (h2.keep hb hbl hlab)
  clear hcell hob0 hob1 ehd ehn hbl hlab hH
  have HPd : Hid (PastAt (.slice (some ⟨hb, ho, none⟩) hn hc) W.drew d M) := hP.below (Below.refl _ _).drew
  have HSS : Hid (∀ (W' : World) (d1 : Dat), PastAt (.slice (some ⟨hb, ho, none⟩) hn hc) W' d1 M → Stp d d1 w W' → W'.heap[w.heap.size]? = some (evB ⟨tk, 14, (oj : Int), vl⟩) → (W'.cell? ⟨d.P, 0, none⟩ = some (.slice (some ⟨hb, ho, none⟩) hn hc) ∧ W'.cell? ⟨d.P, 1, none⟩ = some (.map (some d.Bt)) ∧ W'.cell? ⟨d.P, 2, none⟩ = some (.map (some d.Bp)) ∧ W'.cell? ⟨d.P, 3, none⟩ = some (.map (some d.Bl)) ∧ W'.cell? ⟨d.P, 4, none⟩ = some (.map (some d.Bg))) ∧ (W'.cell? ⟨w.heap.size, 0, none⟩ = some (.int .i64 tk) ∧ W'.cell? ⟨w.heap.size, 1, none⟩ = some (.int .i64 14) ∧ W'.cell? ⟨w.heap.size, 2, none⟩ = some (.int .i64 (oj : Int)) ∧ W'.cell? ⟨w.heap.size, 3, none⟩ = some (.int .i64 vl)) ∧ W'.cell? ⟨hb, ho + oj, none⟩ = some (.int .i64 hd)) := fun W' d1 h1 h2 h3 => ⟨h1.cellsP h2, ev_cells h3, hHC W' d1 h2⟩
  have HWS : Hid (Stp d d w W) := Stp.of_below hB
  have HS0 := hide (unhide HSS W.drew d (unhide HPd) ((unhide HWS).call (Below.refl _ _).drew) ((drew_at _ _).trans hE))
  have HSD : Hid (Stp d d W W.drew) := Stp.of_below (Below.refl _ _).drew
  have HZK : Hid (∀ (W' : World) (d1 : Dat), Stp d d1 W W' → W'.heap[w.heap.size + 1]? = some (ckB ck0) ∧ d1.lab (w.heap.size + 1) = (0, 0) ∧ W'.heap[w.heap.size]? = some (evB ⟨tk, 14, (oj : Int), vl⟩)) := fun W' d1 h2 => ⟨h2.at hZ hLR, (h2.lab _ (size_of hZ)).trans hLR, h2.at hE hLE⟩
  have HLT : Hid (w.heap.size ≤ w.heap.size + 1) := Nat.le_succ _
  have HNE : Hid (w.heap.size ≠ w.heap.size + 1) := Nat.ne_of_lt (Nat.lt_succ_self _)
  obtain ⟨x0, x1, x2, x3⟩ := ev_cells hE
  have HE := hide eW
  have HCC := hide ecc
  have hu := Try.und65
  clear eW hB hE hZ hP hLE hLR h ecc hHC
  go_enter Try.func52, Try.ntmps52
  go_upto_region 1 with fail
  rw [ck0_arr]
  unfold evB ckB at HE
  rw [unhide HE]
  clear HE
  go_upto_region 3 with fail
  clear x0 x1 x2 x3
  go_region_held3 (fun W' => (W'.cell? ⟨d.P, 0, none⟩ = some (.slice (some ⟨hb, ho, none⟩) hn hc) ∧ W'.cell? ⟨d.P, 1, none⟩ = some (.map (some d.Bt)) ∧ W'.cell? ⟨d.P, 2, none⟩ = some (.map (some d.Bp)) ∧ W'.cell? ⟨d.P, 3, none⟩ = some (.map (some d.Bl)) ∧ W'.cell? ⟨d.P, 4, none⟩ = some (.map (some d.Bg))) ∧ (W'.cell? ⟨w.heap.size, 0, none⟩ = some (.int .i64 tk) ∧ W'.cell? ⟨w.heap.size, 1, none⟩ = some (.int .i64 14) ∧ W'.cell? ⟨w.heap.size, 2, none⟩ = some (.int .i64 (oj : Int)) ∧ W'.cell? ⟨w.heap.size, 3, none⟩ = some (.int .i64 vl)) ∧ W'.cell? ⟨hb, ho + oj, none⟩ = some (.int .i64 hd))
    (first | exact unhide HS0 | exact unhide HS1 | exact unhide HS2 | exact unhide HS3)
    (first
      | (go_at_call 54; (with_reducible refine Calls.mono (found_p _ _ d M (unhide HPd) (oj : Int)) ?_); rintro e w1 ⟨d1, b, rfl, hm, h1, h2⟩; have HP1 := hide h1; have HT1 := hide (Stp.trans (unhide HSD) h2); have HM1 := hide hm; have HS1 := hide (unhide HSS w1 d1 h1 ((unhide HWS).trans (unhide HT1)) (unhide HZK w1 d1 (unhide HT1)).2.2); clear h1 h2 hm)
      | (go_at_call 55; (with_reducible refine Calls.mono (aheadOfSend_at ((unhide HP1).p.ent (oj : Int) b (unhide HM1)).2.2 (hsh.s (oj : Int)) (hsh.g (oj : Int)) hd hd0 hd1) ?_); rintro e w2 ⟨rfl, h2⟩; have HP2 := hide ((unhide HP1).below h2); have HT2 := hide ((unhide HT1).call h2); obtain ⟨hz2, hl2, he2⟩ := unhide HZK w2 d1 (unhide HT2); have HS2 := hide (unhide HSS w2 d1 (unhide HP2) ((unhide HWS).trans (unhide HT2)) he2); have HZ2 := hide hz2; have HL2 := hide hl2; clear h2 hz2 hl2; rw [unhide HCC]; have hone := ckL_one cc; have hi : (Try.prog.info? 65).map (·.size) = some (ckL cc).length := (by rw [ckL_len]; exact Try.size65); have hth := ckB_there (unhide HZ2) cc; have HZ3 := hide (ckB_put (unhide HZ2) cc); have HP3 := hide ((unhide HP2).aside (o := 0) (ckL cc) (unhide HL2)); have HT3 := hide (((unhide HWS).trans (unhide HT2)).aside (o := 0) (ckL cc) (unhide HLT)); have HS3 := hide (unhide HSS _ d1 (unhide HP3) (unhide HT3) ((setCells_keep _ (ckL cc) 0 w2 w.heap.size (unhide HNE)).trans he2)); clear he2))
  go_wp2_with fail
  exact bodyPost_ret (ret_ck (f := Try.f52) Try.results52 _ _ (w.heap.size + 1) cc rfl (unhide HZ3)) rfl ⟨d1, rfl, unhide HP3, unhide HT3⟩

set_option maxRecDepth 100000 in
set_option maxHeartbeats 2000000 in
theorem ahead15 (w : World) (hv : Value) (_hs : List Int) (d : Dat) (M : PastM) (tk op ob vl : Int) (hop : op = 15) (h : PastAt hv w d M) (hsh : Short M) (cc : Nat → Int) (ecc : aheadG (M.pipes ob) = cc) :
    Calls Try.prog 52 #[.pointer (some ⟨d.P, 0, none⟩), .agg #[.int .i64 tk, .int .i64 op, .int .i64 ob, .int .i64 vl]] w fun e w' => ∃ d', e = .returned (ckV cc) ∧ PastAt hv w' d' M ∧ Stp d d' w w' := by
  subst hop
  obtain ⟨W, eW, hB, hE, hZ⟩ := two_new w (evB ⟨tk, 15, ob, vl⟩) (ckB ck0)
  have hP := h.below hB
  have hLE : d.lab w.heap.size = (0, 0) := h.hi _ (Nat.le_refl _)
  have hLR : d.lab (w.heap.size + 1) = (0, 0) := h.hi _ (Nat.le_succ _)
  have HPd : Hid (PastAt hv W.drew d M) := hP.below (Below.refl _ _).drew
  have HSS : Hid (∀ (W' : World) (d1 : Dat), PastAt hv W' d1 M → Stp d d1 w W' → W'.heap[w.heap.size]? = some (evB ⟨tk, 15, ob, vl⟩) → (W'.cell? ⟨d.P, 0, none⟩ = some hv ∧ W'.cell? ⟨d.P, 1, none⟩ = some (.map (some d.Bt)) ∧ W'.cell? ⟨d.P, 2, none⟩ = some (.map (some d.Bp)) ∧ W'.cell? ⟨d.P, 3, none⟩ = some (.map (some d.Bl)) ∧ W'.cell? ⟨d.P, 4, none⟩ = some (.map (some d.Bg))) ∧ (W'.cell? ⟨w.heap.size, 0, none⟩ = some (.int .i64 tk) ∧ W'.cell? ⟨w.heap.size, 1, none⟩ = some (.int .i64 15) ∧ W'.cell? ⟨w.heap.size, 2, none⟩ = some (.int .i64 ob) ∧ W'.cell? ⟨w.heap.size, 3, none⟩ = some (.int .i64 vl))) := fun W' d1 h1 h2 h3 => ⟨h1.cellsP h2, ev_cells h3⟩
  have HWS : Hid (Stp d d w W) := Stp.of_below hB
  have HS0 := hide (unhide HSS W.drew d (unhide HPd) ((unhide HWS).call (Below.refl _ _).drew) ((drew_at _ _).trans hE))
  have HSD : Hid (Stp d d W W.drew) := Stp.of_below (Below.refl _ _).drew
  have HZK : Hid (∀ (W' : World) (d1 : Dat), Stp d d1 W W' → W'.heap[w.heap.size + 1]? = some (ckB ck0) ∧ d1.lab (w.heap.size + 1) = (0, 0) ∧ W'.heap[w.heap.size]? = some (evB ⟨tk, 15, ob, vl⟩)) := fun W' d1 h2 => ⟨h2.at hZ hLR, (h2.lab _ (size_of hZ)).trans hLR, h2.at hE hLE⟩
  have HLT : Hid (w.heap.size ≤ w.heap.size + 1) := Nat.le_succ _
  have HNE : Hid (w.heap.size ≠ w.heap.size + 1) := Nat.ne_of_lt (Nat.lt_succ_self _)
  obtain ⟨x0, x1, x2, x3⟩ := ev_cells hE
  have HE := hide eW
  have HCC := hide ecc
  have hu := Try.und65
  clear eW hB hE hZ hP hLE hLR h ecc
  go_enter Try.func52, Try.ntmps52
  go_upto_region 1 with fail
  rw [ck0_arr]
  unfold evB ckB at HE
  rw [unhide HE]
  clear HE
  go_upto_region 5 with fail
  clear x0 x1 x2 x3
  go_region_held3 (fun W' => (W'.cell? ⟨d.P, 0, none⟩ = some hv ∧ W'.cell? ⟨d.P, 1, none⟩ = some (.map (some d.Bt)) ∧ W'.cell? ⟨d.P, 2, none⟩ = some (.map (some d.Bp)) ∧ W'.cell? ⟨d.P, 3, none⟩ = some (.map (some d.Bl)) ∧ W'.cell? ⟨d.P, 4, none⟩ = some (.map (some d.Bg))) ∧ (W'.cell? ⟨w.heap.size, 0, none⟩ = some (.int .i64 tk) ∧ W'.cell? ⟨w.heap.size, 1, none⟩ = some (.int .i64 15) ∧ W'.cell? ⟨w.heap.size, 2, none⟩ = some (.int .i64 ob) ∧ W'.cell? ⟨w.heap.size, 3, none⟩ = some (.int .i64 vl)))
    (first | exact unhide HS0 | exact unhide HS1 | exact unhide HS2 | exact unhide HS3)
    (first
      | (go_at_call 54; (with_reducible refine Calls.mono (found_p _ hv d M (unhide HPd) ob) ?_); rintro e w1 ⟨d1, b, rfl, hm, h1, h2⟩; have HP1 := hide h1; have HT1 := hide (Stp.trans (unhide HSD) h2); have HM1 := hide hm; have HS1 := hide (unhide HSS w1 d1 h1 ((unhide HWS).trans (unhide HT1)) (unhide HZK w1 d1 (unhide HT1)).2.2); clear h1 h2 hm)
      | (go_at_call 56; (with_reducible refine Calls.mono (aheadOfGet_at ((unhide HP1).p.ent ob b (unhide HM1)).2.2 (hsh.s ob) (hsh.g ob)) ?_); rintro e w2 ⟨rfl, h2⟩; have HP2 := hide ((unhide HP1).below h2); have HT2 := hide ((unhide HT1).call h2); obtain ⟨hz2, hl2, he2⟩ := unhide HZK w2 d1 (unhide HT2); have HS2 := hide (unhide HSS w2 d1 (unhide HP2) ((unhide HWS).trans (unhide HT2)) he2); have HZ2 := hide hz2; have HL2 := hide hl2; clear h2 hz2 hl2; rw [unhide HCC]; have hone := ckL_one cc; have hi : (Try.prog.info? 65).map (·.size) = some (ckL cc).length := (by rw [ckL_len]; exact Try.size65); have hth := ckB_there (unhide HZ2) cc; have HZ3 := hide (ckB_put (unhide HZ2) cc); have HP3 := hide ((unhide HP2).aside (o := 0) (ckL cc) (unhide HL2)); have HT3 := hide (((unhide HWS).trans (unhide HT2)).aside (o := 0) (ckL cc) (unhide HLT)); have HS3 := hide (unhide HSS _ d1 (unhide HP3) (unhide HT3) ((setCells_keep _ (ckL cc) 0 w2 w.heap.size (unhide HNE)).trans he2)); clear he2))
  go_wp2_with fail
  exact bodyPost_ret (ret_ck (f := Try.f52) Try.results52 _ _ (w.heap.size + 1) cc rfl (unhide HZ3)) rfl ⟨d1, rfl, unhide HP3, unhide HT3⟩

set_option maxRecDepth 100000 in
set_option maxHeartbeats 2000000 in
theorem ahead17 (w : World) (hv : Value) (_hs : List Int) (d : Dat) (M : PastM) (tk op ob vl : Int) (hop : op = 17) (h : PastAt hv w d M) (cc : Nat → Int) (ecc : (if vl = 1 then (M.locks ob).all else (M.locks ob).writers) = cc) :
    Calls Try.prog 52 #[.pointer (some ⟨d.P, 0, none⟩), .agg #[.int .i64 tk, .int .i64 op, .int .i64 ob, .int .i64 vl]] w fun e w' => ∃ d', e = .returned (ckV cc) ∧ PastAt hv w' d' M ∧ Stp d d' w w' := by
  subst hop
  obtain ⟨W, eW, hB, hE, hZ⟩ := two_new w (evB ⟨tk, 17, ob, vl⟩) (ckB ck0)
  have hP := h.below hB
  have hLE : d.lab w.heap.size = (0, 0) := h.hi _ (Nat.le_refl _)
  have hLR : d.lab (w.heap.size + 1) = (0, 0) := h.hi _ (Nat.le_succ _)
  have HPd : Hid (PastAt hv W.drew d M) := hP.below (Below.refl _ _).drew
  have HSS : Hid (∀ (W' : World) (d1 : Dat), PastAt hv W' d1 M → Stp d d1 w W' → W'.heap[w.heap.size]? = some (evB ⟨tk, 17, ob, vl⟩) → (W'.cell? ⟨d.P, 0, none⟩ = some hv ∧ W'.cell? ⟨d.P, 1, none⟩ = some (.map (some d.Bt)) ∧ W'.cell? ⟨d.P, 2, none⟩ = some (.map (some d.Bp)) ∧ W'.cell? ⟨d.P, 3, none⟩ = some (.map (some d.Bl)) ∧ W'.cell? ⟨d.P, 4, none⟩ = some (.map (some d.Bg))) ∧ (W'.cell? ⟨w.heap.size, 0, none⟩ = some (.int .i64 tk) ∧ W'.cell? ⟨w.heap.size, 1, none⟩ = some (.int .i64 17) ∧ W'.cell? ⟨w.heap.size, 2, none⟩ = some (.int .i64 ob) ∧ W'.cell? ⟨w.heap.size, 3, none⟩ = some (.int .i64 vl))) := fun W' d1 h1 h2 h3 => ⟨h1.cellsP h2, ev_cells h3⟩
  have HWS : Hid (Stp d d w W) := Stp.of_below hB
  have HS0 := hide (unhide HSS W.drew d (unhide HPd) ((unhide HWS).call (Below.refl _ _).drew) ((drew_at _ _).trans hE))
  have HSD : Hid (Stp d d W W.drew) := Stp.of_below (Below.refl _ _).drew
  have HZK : Hid (∀ (W' : World) (d1 : Dat), Stp d d1 W W' → W'.heap[w.heap.size + 1]? = some (ckB ck0) ∧ d1.lab (w.heap.size + 1) = (0, 0) ∧ W'.heap[w.heap.size]? = some (evB ⟨tk, 17, ob, vl⟩)) := fun W' d1 h2 => ⟨h2.at hZ hLR, (h2.lab _ (size_of hZ)).trans hLR, h2.at hE hLE⟩
  have HLT : Hid (w.heap.size ≤ w.heap.size + 1) := Nat.le_succ _
  have HNE : Hid (w.heap.size ≠ w.heap.size + 1) := Nat.ne_of_lt (Nat.lt_succ_self _)
  obtain ⟨x0, x1, x2, x3⟩ := ev_cells hE
  have HE := hide eW
  have HCC := hide ecc
  have hu := Try.und65
  clear eW hB hE hZ hP hLE hLR h ecc
  go_enter Try.func52, Try.ntmps52
  go_upto_region 1 with fail
  rw [ck0_arr]
  unfold evB ckB at HE
  rw [unhide HE]
  clear HE
  go_upto_region 7 with fail
  clear x0 x1 x2 x3
  go_region_held3 (fun W' => (W'.cell? ⟨d.P, 0, none⟩ = some hv ∧ W'.cell? ⟨d.P, 1, none⟩ = some (.map (some d.Bt)) ∧ W'.cell? ⟨d.P, 2, none⟩ = some (.map (some d.Bp)) ∧ W'.cell? ⟨d.P, 3, none⟩ = some (.map (some d.Bl)) ∧ W'.cell? ⟨d.P, 4, none⟩ = some (.map (some d.Bg))) ∧ (W'.cell? ⟨w.heap.size, 0, none⟩ = some (.int .i64 tk) ∧ W'.cell? ⟨w.heap.size, 1, none⟩ = some (.int .i64 17) ∧ W'.cell? ⟨w.heap.size, 2, none⟩ = some (.int .i64 ob) ∧ W'.cell? ⟨w.heap.size, 3, none⟩ = some (.int .i64 vl)))
    (first | exact unhide HS0 | exact unhide HS1 | exact unhide HS2 | exact unhide HS3)
    (first
      | (go_at_call 57; (with_reducible refine Calls.mono (found_l _ hv d M (unhide HPd) ob) ?_); rintro e w1 ⟨d1, b, rfl, hm, h1, h2⟩; have HP1 := hide h1; have HT1 := hide (Stp.trans (unhide HSD) h2); have HM1 := hide hm; have HS1 := hide (unhide HSS w1 d1 h1 ((unhide HWS).trans (unhide HT1)) (unhide HZK w1 d1 (unhide HT1)).2.2); clear h1 h2 hm)
      | (go_at_call 58; (with_reducible refine Calls.mono (aheadOfLock_any _ b _ vl ((unhide HP1).l.ent ob b (unhide HM1)).2.2) ?_); rintro e w2 ⟨rfl, h2⟩; have HP2 := hide ((unhide HP1).below h2); have HT2 := hide ((unhide HT1).call h2); obtain ⟨hz2, hl2, he2⟩ := unhide HZK w2 d1 (unhide HT2); have HS2 := hide (unhide HSS w2 d1 (unhide HP2) ((unhide HWS).trans (unhide HT2)) he2); have HZ2 := hide hz2; have HL2 := hide hl2; clear h2 hz2 hl2; rw [unhide HCC]; have hone := ckL_one cc; have hi : (Try.prog.info? 65).map (·.size) = some (ckL cc).length := (by rw [ckL_len]; exact Try.size65); have hth := ckB_there (unhide HZ2) cc; have HZ3 := hide (ckB_put (unhide HZ2) cc); have HP3 := hide ((unhide HP2).aside (o := 0) (ckL cc) (unhide HL2)); have HT3 := hide (((unhide HWS).trans (unhide HT2)).aside (o := 0) (ckL cc) (unhide HLT)); have HS3 := hide (unhide HSS _ d1 (unhide HP3) (unhide HT3) ((setCells_keep _ (ckL cc) 0 w2 w.heap.size (unhide HNE)).trans he2)); clear he2))
  go_wp2_with fail
  exact bodyPost_ret (ret_ck (f := Try.f52) Try.results52 _ _ (w.heap.size + 1) cc rfl (unhide HZ3)) rfl ⟨d1, rfl, unhide HP3, unhide HT3⟩

set_option maxRecDepth 100000 in
set_option maxHeartbeats 2000000 in
theorem ahead20 (w : World) (hv : Value) (_hs : List Int) (d : Dat) (M : PastM) (tk op ob vl : Int) (hop : op = 20) (h : PastAt hv w d M) (cc : Nat → Int) (ecc : M.groups ob = cc) :
    Calls Try.prog 52 #[.pointer (some ⟨d.P, 0, none⟩), .agg #[.int .i64 tk, .int .i64 op, .int .i64 ob, .int .i64 vl]] w fun e w' => ∃ d', e = .returned (ckV cc) ∧ PastAt hv w' d' M ∧ Stp d d' w w' := by
  subst hop
  obtain ⟨W, eW, hB, hE, hZ⟩ := two_new w (evB ⟨tk, 20, ob, vl⟩) (ckB ck0)
  have hP := h.below hB
  have hLE : d.lab w.heap.size = (0, 0) := h.hi _ (Nat.le_refl _)
  have hLR : d.lab (w.heap.size + 1) = (0, 0) := h.hi _ (Nat.le_succ _)
  have HPd : Hid (PastAt hv W.drew d M) := hP.below (Below.refl _ _).drew
  have HSS : Hid (∀ (W' : World) (d1 : Dat), PastAt hv W' d1 M → Stp d d1 w W' → W'.heap[w.heap.size]? = some (evB ⟨tk, 20, ob, vl⟩) → (W'.cell? ⟨d.P, 0, none⟩ = some hv ∧ W'.cell? ⟨d.P, 1, none⟩ = some (.map (some d.Bt)) ∧ W'.cell? ⟨d.P, 2, none⟩ = some (.map (some d.Bp)) ∧ W'.cell? ⟨d.P, 3, none⟩ = some (.map (some d.Bl)) ∧ W'.cell? ⟨d.P, 4, none⟩ = some (.map (some d.Bg))) ∧ (W'.cell? ⟨w.heap.size, 0, none⟩ = some (.int .i64 tk) ∧ W'.cell? ⟨w.heap.size, 1, none⟩ = some (.int .i64 20) ∧ W'.cell? ⟨w.heap.size, 2, none⟩ = some (.int .i64 ob) ∧ W'.cell? ⟨w.heap.size, 3, none⟩ = some (.int .i64 vl))) := fun W' d1 h1 h2 h3 => ⟨h1.cellsP h2, ev_cells h3⟩
  have HWS : Hid (Stp d d w W) := Stp.of_below hB
  have HS0 := hide (unhide HSS W.drew d (unhide HPd) ((unhide HWS).call (Below.refl _ _).drew) ((drew_at _ _).trans hE))
  have HSD : Hid (Stp d d W W.drew) := Stp.of_below (Below.refl _ _).drew
  have HZK : Hid (∀ (W' : World) (d1 : Dat), Stp d d1 W W' → W'.heap[w.heap.size + 1]? = some (ckB ck0) ∧ d1.lab (w.heap.size + 1) = (0, 0) ∧ W'.heap[w.heap.size]? = some (evB ⟨tk, 20, ob, vl⟩)) := fun W' d1 h2 => ⟨h2.at hZ hLR, (h2.lab _ (size_of hZ)).trans hLR, h2.at hE hLE⟩
  have HLT : Hid (w.heap.size ≤ w.heap.size + 1) := Nat.le_succ _
  have HNE : Hid (w.heap.size ≠ w.heap.size + 1) := Nat.ne_of_lt (Nat.lt_succ_self _)
  obtain ⟨x0, x1, x2, x3⟩ := ev_cells hE
  have HE := hide eW
  have HCC := hide ecc
  have hu := Try.und65
  clear eW hB hE hZ hP hLE hLR h ecc
  go_enter Try.func52, Try.ntmps52
  go_upto_region 1 with fail
  rw [ck0_arr]
  unfold evB ckB at HE
  rw [unhide HE]
  clear HE
  go_upto_region 9 with fail
  clear x0 x1 x2 x3
  refine wp_region_held_drew (S := fun W' => (W'.cell? ⟨d.P, 0, none⟩ = some hv ∧ W'.cell? ⟨d.P, 1, none⟩ = some (.map (some d.Bt)) ∧ W'.cell? ⟨d.P, 2, none⟩ = some (.map (some d.Bp)) ∧ W'.cell? ⟨d.P, 3, none⟩ = some (.map (some d.Bl)) ∧ W'.cell? ⟨d.P, 4, none⟩ = some (.map (some d.Bg))) ∧ (W'.cell? ⟨w.heap.size, 0, none⟩ = some (.int .i64 tk) ∧ W'.cell? ⟨w.heap.size, 1, none⟩ = some (.int .i64 20) ∧ W'.cell? ⟨w.heap.size, 2, none⟩ = some (.int .i64 ob) ∧ W'.cell? ⟨w.heap.size, 3, none⟩ = some (.int .i64 vl))) (by kernel_rfl) (unhide HS0) (fun hHeld => ?_)
  refine wpAnyH_take (i := 0) (oi := { dst := some 49, op := Op.move (Operand.tmp 0), type := 80, pos := "past.go:65", after := #[], guard := none }) (v := ?v0) rfl (by kernel_rfl) (by kernel_rfl) (by kernel_rfl) (fun _ _ _ h => h) (Or.inl ⟨by rfl, ?y0⟩) (by assumption) ?r0
  case y0 => (intro w hSw; (try dsimp only at hSw); go_simp; try with_reducible rfl)
  try simp only [Act.put, List.setIfInBounds_toArray, List.set_cons_zero, List.set_cons_succ]
  refine wpAnyH_take (i := 1) (oi := { dst := some 50, op := Op.nilCheck (Operand.tmp 49), type := 0, pos := "past.go:65", after := #[{ on := 0, ground := Ground.data }], guard := none }) (v := ?v1) rfl (by kernel_rfl) (by kernel_rfl) (by kernel_rfl) (fun _ _ _ h => h) (Or.inl ⟨by rfl, ?y1⟩) (by assumption) ?r1
  case y1 => (intro w hSw; (try dsimp only at hSw); go_simp; try with_reducible rfl)
  try simp only [Act.put, List.setIfInBounds_toArray, List.set_cons_zero, List.set_cons_succ]
  refine wpAnyH_take (i := 2) (oi := { dst := some 51, op := Op.fieldAddr 99 (Operand.tmp 50) 4, type := 0, pos := "past.go:65", after := #[{ on := 1, ground := Ground.data }], guard := none }) (v := ?v2) rfl (by kernel_rfl) (by kernel_rfl) (by kernel_rfl) (fun _ _ _ h => h) (Or.inl ⟨by rfl, ?y2⟩) (by assumption) ?r2
  case y2 => (intro w hSw; (try dsimp only at hSw); go_simp; try with_reducible rfl)
  try simp only [Act.put, List.setIfInBounds_toArray, List.set_cons_zero, List.set_cons_succ]
  refine wpAnyH_take (i := 3) (oi := { dst := some 52, op := Op.load 95 (Operand.tmp 51), type := 95, pos := "past.go:65", after := #[{ on := 2, ground := Ground.data }], guard := none }) (v := ?v3) rfl (by kernel_rfl) (by kernel_rfl) (by kernel_rfl) (fun _ _ _ h => h) (Or.inl ⟨by rfl, ?y3⟩) (by assumption) ?r3
  case y3 => (intro w hSw; (try dsimp only at hSw); go_simp; try with_reducible rfl)
  try simp only [Act.put, List.setIfInBounds_toArray, List.set_cons_zero, List.set_cons_succ]
  refine wpAnyH_take (i := 4) (oi := { dst := some 53, op := Op.fieldAddr 41 (Operand.tmp 3) 2, type := 0, pos := "past.go:65", after := #[], guard := none }) (v := ?v4) rfl (by kernel_rfl) (by kernel_rfl) (by kernel_rfl) (fun _ _ _ h => h) (Or.inl ⟨by rfl, ?y4⟩) (by assumption) ?r4
  case y4 => (intro w hSw; (try dsimp only at hSw); go_simp; try with_reducible rfl)
  try simp only [Act.put, List.setIfInBounds_toArray, List.set_cons_zero, List.set_cons_succ]
  refine wpAnyH_take (i := 5) (oi := { dst := some 54, op := Op.load 3 (Operand.tmp 53), type := 3, pos := "past.go:65", after := #[{ on := 4, ground := Ground.data }], guard := none }) (v := ?v5) rfl (by kernel_rfl) (by kernel_rfl) (by kernel_rfl) (fun _ _ _ h => h) (Or.inl ⟨by rfl, ?y5⟩) (by assumption) ?r5
  case y5 => (intro w hSw; (try dsimp only at hSw); go_simp; try with_reducible rfl)
  try simp only [Act.put, List.setIfInBounds_toArray, List.set_cons_zero, List.set_cons_succ]
  refine wpAnyH_ready (rs := [6]) (by kernel_rfl) (by simp) ?_
  refine AllReadyH.cons (o := { dst := some 55, op := Op.call { callee := Callee.value (Operand.func 50), args := #[Operand.tmp 52, Operand.tmp 54], argTypes := #[95, 3] }, type := 100, pos := "past.go:65", after := #[{ on := 3, ground := Ground.data }, { on := 5, ground := Ground.data }], guard := none }) rfl (fun K hK => ?_) AllReadyH.nil
  go_simp
  (go_at_call 50; (with_reducible refine Calls.mono (found_g _ hv d M (unhide HPd) ob) ?_); rintro e w2 ⟨d1, b, rfl, hm, h1, h2⟩; have HP2 := hide h1; have HT2 := hide (Stp.trans (unhide HSD) h2); have hblk := (h1.g.ent ob b hm).2.2; rw [unhide HCC] at hblk; have hrb : w2.rangeAt b 0 (ckL cc) := range_block (l := []) (r := []) (by simpa [ckB] using hblk); obtain ⟨hz2, hl2, he2⟩ := unhide HZK w2 d1 (unhide HT2); have HS2 := hide (unhide HSS w2 d1 (unhide HP2) ((unhide HWS).trans (unhide HT2)) he2); have HZ2 := hide hz2; have HL2 := hide hl2; clear h1 h2 hm hz2 hl2 hblk; have hone := ckL_one cc; have hi : (Try.prog.info? 65).map (·.size) = some (ckL cc).length := (by rw [ckL_len]; exact Try.size65); have hth := ckB_there (unhide HZ2) cc; have HZ3 := hide (ckB_put (unhide HZ2) cc); have HP3 := hide ((unhide HP2).aside (o := 0) (ckL cc) (unhide HL2)); have HT3 := hide (((unhide HWS).trans (unhide HT2)).aside (o := 0) (ckL cc) (unhide HLT)); have HS3 := hide (unhide HSS _ d1 (unhide HP3) (unhide HT3) ((setCells_keep _ (ckL cc) 0 w2 w.heap.size (unhide HNE)).trans he2)); clear he2)
  refine hK.out _ _ (unhide HS2) (fun hHeld => ?_)
  clear hK K
  try simp only [Act.put, List.setIfInBounds_toArray, List.set_cons_zero, List.set_cons_succ]
  refine wpAnyH_take (i := 7) (oi := { dst := some 56, op := Op.nilCheck (Operand.tmp 55), type := 0, pos := "past.go:65", after := #[{ on := 6, ground := Ground.data }], guard := none }) (v := ?v7) rfl (by kernel_rfl) (by kernel_rfl) (by kernel_rfl) (fun _ _ _ h => h) (Or.inl ⟨by rfl, ?y7⟩) (by assumption) ?r7
  case y7 => (intro w hSw; (try dsimp only at hSw); go_simp; try with_reducible rfl)
  try simp only [Act.put, List.setIfInBounds_toArray, List.set_cons_zero, List.set_cons_succ]
  refine wpAnyH_ready (rs := [8]) (by kernel_rfl) (by simp) ?_
  refine AllReadyH.cons (o := { dst := some 57, op := Op.load 65 (Operand.tmp 56), type := 65, pos := "past.go:65", after := #[{ on := 7, ground := Ground.data }], guard := none }) rfl (fun K hK => ?_) AllReadyH.nil
  refine step_run rfl (val_run (load_mid w2 b 0 cc hrb)) ?_
  refine hK.out _ _ (unhide HS2) (fun hHeld => ?_)
  clear hK K
  try simp only [Act.put, List.setIfInBounds_toArray, List.set_cons_zero, List.set_cons_succ]
  refine wpAnyH_ready (rs := [9]) (by kernel_rfl) (by simp) ?_
  refine AllReadyH.cons (o := { dst := none, op := Op.store 65 (Operand.tmp 4) (Operand.tmp 57), type := 0, pos := "past.go:65", after := #[{ on := 8, ground := Ground.data }, { on := 6, ground := Ground.chain }, { on := 0, ground := Ground.phase }, { on := 1, ground := Ground.phase }, { on := 2, ground := Ground.phase }, { on := 3, ground := Ground.phase }, { on := 4, ground := Ground.phase }, { on := 5, ground := Ground.phase }, { on := 6, ground := Ground.phase }, { on := 7, ground := Ground.phase }, { on := 8, ground := Ground.phase }], guard := none }) rfl (fun K hK => ?_) AllReadyH.nil
  refine step_want rfl (wp_store_mid _ _ _ rfl _ _ (ckL cc).toArray rfl rfl hth (by simpa using hi) (ckL_all _) ?_)
  refine hK.out _ _ (unhide HS3) (fun hHeld => ?_)
  clear hK K
  try simp only [Act.put]
  refine wpAnyH_done (by kernel_rfl) ?_ _
  go_wp2_with fail
  exact bodyPost_ret (ret_ck (f := Try.f52) Try.results52 _ _ (w.heap.size + 1) cc rfl (unhide HZ3)) rfl ⟨rfl, d1, unhide HP3, unhide HT3⟩

set_option maxRecDepth 100000 in
set_option maxHeartbeats 2000000 in
theorem ahead_else (w : World) (hv : Value) (d : Dat) (M : PastM) (tk op ob vl : Int) (h14 : op ≠ 14) (h15 : op ≠ 15) (h17 : op ≠ 17) (h20 : op ≠ 20) (h : PastAt hv w d M) :
    Calls Try.prog 52 #[.pointer (some ⟨d.P, 0, none⟩), .agg #[.int .i64 tk, .int .i64 op, .int .i64 ob, .int .i64 vl]] w fun e w' => ∃ d', e = .returned (ckV ck0) ∧ PastAt hv w' d' M ∧ Stp d d' w w' := by
  obtain ⟨W, eW, hB, hE, hZ⟩ := two_new w (evB ⟨tk, op, ob, vl⟩) (ckB ck0)
  obtain ⟨x0, x1, x2, x3⟩ := ev_cells hE
  have b14 : (op == 14) = false := by simpa using h14
  have b15 : (op == 15) = false := by simpa using h15
  have b17 : (op == 17) = false := by simpa using h17
  have b20 : (op == 20) = false := by simpa using h20
  obtain ⟨W2, eW2, hB2, hZ2⟩ := res_put hB (Nat.le_succ _) hZ ck0
  have HE := hide eW; have HZ := hide hZ; have HE2 := hide eW2; have HB2 := hide hB2; have HZ2 := hide hZ2; have HP := hide h
  have hbc := build_ck0
  clear eW hB hE hZ eW2 hB2 hZ2 h h14 h15 h17 h20
  go_enter Try.func52, Try.ntmps52
  go_upto_region 1 with fail
  rw [ck0_arr]
  unfold evB ckB at HE
  rw [unhide HE]
  clear HE
  go_upto_region 10 with fail
  go_wp2_with (rw [ck0_arr]; refine wpList_store_mid rfl _ _ _ rfl _ _ (ckL (ck0)).toArray rfl rfl (ckB_there (unhide HZ) _) (by simpa [ckL_len] using Try.size65) (ckL_all _) ?_; rw [unhide HE2])
  exact bodyPost_ret (ret_ck (f := Try.f52) Try.results52 _ _ (w.heap.size + 1) ck0 rfl (unhide HZ2)) rfl ⟨rfl, d, (unhide HP).below (unhide HB2), Stp.of_below (unhide HB2)⟩

/-- What is asked of an event. -/
structure EvOk (hs : List Int) (e : Ev) : Prop where
  t1 : 1 ≤ e.task
  t2 : e.task ≤ 64
  pipe : e.op = 14 ∨ e.op = 15 ∨ e.op = 16 → 0 ≤ e.obj ∧ e.obj < (hs.length : Int)
def HoldsOk (hs : List Int) : Prop := ∀ i, 0 ≤ hs.getD i 0 ∧ hs.getD i 0 ≤ 100
theorem ahead_any (w : World) (hv : Value) (hs : List Int) (d : Dat) (M : PastM) (e : Ev) (h : PastAt hv w d M) (hH : Holds hv w d hs) (hho : HoldsOk hs) (hsh : Short M) (he : EvOk hs e) :
    Calls Try.prog 52 #[.pointer (some ⟨d.P, 0, none⟩), evV e] w fun r w' => ∃ d', r = .returned (ckV (aheadM hs M e)) ∧ PastAt hv w' d' M ∧ Stp d d' w w' := by
  obtain ⟨tk, op, ob, vl⟩ := e
  unfold aheadM evV
  dsimp only
  by_cases h14 : op = 14
  · rw [if_pos h14]
    obtain ⟨h1, h2⟩ := he.pipe (Or.inl h14)
    exact ahead14 w hv hs d M tk op ob vl h14 h hH h1 h2 _ rfl (hho _).1 (hho _).2 hsh _ rfl
  · rw [if_neg h14]
    by_cases h15 : op = 15
    · rw [if_pos h15]
      exact ahead15 w hv hs d M tk op ob vl h15 h hsh _ rfl
    · rw [if_neg h15]
      by_cases h17 : op = 17
      · rw [if_pos h17]
        exact ahead17 w hv hs d M tk op ob vl h17 h _ rfl
      · rw [if_neg h17]
        by_cases h20 : op = 20
        · rw [if_pos h20]
          exact ahead20 w hv hs d M tk op ob vl h20 h _ rfl
        · rw [if_neg h20]
          exact ahead_else w hv d M tk op ob vl h14 h15 h17 h20 h
end Go.Proofs.Ytbnmeeabpjmcoaa
