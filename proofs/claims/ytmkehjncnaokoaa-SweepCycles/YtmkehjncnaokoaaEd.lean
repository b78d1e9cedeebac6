/-
  taskmillref.Marking: roots, step.
  taskmillref.Marking: there.
-/
import Derived.Test.YtmkehjncnaokoaaEb
import Derived.BigQuiet
namespace Go.Proofs.Ytmkehjncnaokoaa
open Go.RowKit

theorem RfS.step {lo : Nat} {w w1 w2 : World} {lab lab1 : Nat → Nat} {b : Nat} {oa : Option Addr} {n co : Nat} {ar : Option Addr} {nr cr wb cw : Nat} {vl : Value} {g1 g2 : Gm} (_h1 : RfL lo w1 lab1 b oa n co ar nr cr wb cw vl g1) (ha : ∀ k, k < w.heap.size → lab1 k = lab k) (hk : ∀ k, k < w.heap.size → lab k = 0 → w1.heap[k]? = w.heap[k]?) (hs : w.heap.size ≤ w1.heap.size) (hb : Below lo w w1) (h2 : RfS lo w2 lab1 w1.heap.size b oa n co ar nr cr wb cw g2) (hk2 : ∀ k, k < w1.heap.size → lab1 k = 0 → w2.heap[k]? = w1.heap[k]?) (hb2 : Below lo w1 w2) : RfS lo w2 lab w.heap.size b oa n co ar nr cr wb cw g2 ∧ (∀ k, k < w.heap.size → lab k = 0 → w2.heap[k]? = w.heap[k]?) ∧ Below lo w w2 := by
  obtain ⟨lab2, v2, q1, q2⟩ := h2
  exact ⟨⟨lab2, v2, q1, fun k k1 => (q2 k (Nat.lt_of_lt_of_le k1 hs)).trans (ha k k1)⟩, fun k k1 k2 => (hk2 k (Nat.lt_of_lt_of_le k1 hs) (by rw [ha k k1]; exact k2)).trans (hk k k1 k2), hb.trans hb2⟩
theorem lnOk_take {n : Nat} {m : Mk} (h : LnOk n m) {os : List Int} (ho : ∀ o ∈ os, -1 ≤ o ∧ o < (n : Int)) (i : Nat) : LnOk n (shadeL m (os.take i)) := h.shade (fun o q => ho o (List.mem_of_mem_take q))

set_option maxRecDepth 100000 in
set_option maxHeartbeats 4000000 in
theorem roots_any {lo : Nat} {w : World} {lab : Nat → Nat} {b : Nat} {oa : Option Addr} {n co : Nat} {ar : Option Addr} {nr cr wb cw : Nat} {vl : Value} {g : Gm} (h : RfL lo w lab b oa n co ar nr cr wb cw vl g) (hro : ∀ o ∈ g.rs, -1 ≤ o ∧ o < (n : Int)) (hnr : nr ≤ 16) (hnd : NodG g.mm) (hk : LnOk n g.mm) :
    Calls Try.prog 34 #[.pointer (some ⟨b, 0, none⟩)] w fun e w' => e = .returned (.tuple #[]) ∧ RfS lo w' lab w.heap.size b oa n co ar nr cr wb cw ⟨g.os, g.rs, shadeL g.mm g.rs⟩ ∧ (∀ k, k < w.heap.size → lab k = 0 → w'.heap[k]? = w.heap[k]?) ∧ Below lo w w' := by
  have hr := h.hr
  have HR0 : Hid (RfL lo w lab b oa n co ar nr cr wb cw vl ⟨g.os, g.rs, shadeL g.mm (g.rs.take 0)⟩) := by rw [List.take_zero]; exact h
  have HND := hide hnd; have HK := hide hk; have HRO := hide hro; have HRL := hide hr
  clear h hnd hk hro hr
  go_enter Try.func34, Try.ntmps34
  go_wp2_with fail
  go_loopw [2] (fun s2 wr => ∃ (i : Nat) (lab1 : Nat → Nat) (v : Value), i ≤ nr ∧ s2 = .int .i64 (i : Int) ∧ Hid (RfL lo wr lab1 b oa n co ar nr cr wb cw v ⟨g.os, g.rs, shadeL g.mm (g.rs.take i)⟩) ∧ Hid (∀ k, k < w.heap.size → lab1 k = lab k) ∧ Hid (∀ k, k < w.heap.size → lab k = 0 → wr.heap[k]? = w.heap[k]?) ∧ Hid (w.heap.size ≤ wr.heap.size) ∧ Hid (Below lo w wr)) (fun s2 _ => nr - (intOf s2).toNat)
  case atStart => exact ⟨0, lab, vl, Nat.zero_le _, rfl, HR0, hide (fun _ _ => rfl), hide (fun _ _ _ => rfl), hide (Nat.le_refl _), hide (Below.refl _ _)⟩
  case round =>
    obtain ⟨i, lab1, v, hi, rfl, HR, HA, HKP, HSZ, HB⟩ := hrel
    clear HR0
    obtain ⟨⟨m0, m1, m2, m3⟩, ⟨mf0, mf1, mf2, mf3⟩, ml⟩ := block4 (unhide HR).blk
    by_cases hin : i < nr
    · have i6 : (0 : Int) ≤ (i : Int) := by omega
      have i7 : (i : Int) < (nr : Int) := by omega
      have hw1 : IntKind.i64.wrap ((i : Int) + 1) = (i : Int) + 1 := wrapi (by omega) (by omega)
      obtain ⟨rb, ro, ear, r1, _, _, _, _⟩ := (unhide HR).regAt hin
      change wr.cell? ⟨rb, ro + i, none⟩ = some (.int .i64 (g.rs.getD i 0)) at r1
      have hlk := lnOk_take (unhide HK) (unhide HRO) i
      have hcn := hlk.cnt
      have HSH := hide (rshade_any (unhide HR) ((unhide HND).shadeL _) (by show (shadeL g.mm (g.rs.take i)).ln.length ≤ 900000; omega) (g.rs.getD i 0) (unhide HRO _ (getD_mem (by rw [unhide HRL]; exact hin))))
      have HTK := hide (shadeL_take g.mm g.rs (i := i) (by rw [unhide HRL]; exact hin))
      obtain ⟨y, ey⟩ : ∃ y, g.rs.getD i 0 = y := ⟨_, rfl⟩
      rw [ey] at r1 HSH HTK
      subst ear
      clear hlk hcn ey
      go_wp2_with (go_at_call 47; (with_reducible refine Calls.mono (unhide HSH) ?_); rintro e w5 ⟨rfl, h5, hk5, hb5⟩; have H5 := hide h5; have HK5 := hide hk5; have HB5 := hide hb5; clear h5 hk5 hb5)
      have hst := RfS.step (unhide HR) (unhide HA) (unhide HKP) (unhide HSZ) (unhide HB) (unhide H5) (unhide HK5) (unhide HB5)
      have hsz5 := (unhide HB5).size
      obtain ⟨⟨lab2, v2, q1, q2⟩, q3, q4⟩ := hst
      go_roundw
      case rel => exact ⟨i + 1, lab2, v2, by omega, by go_num, by rw [unhide HTK]; exact q1, q2, q3, Nat.le_trans (unhide HSZ) hsz5, q4⟩
      case measure => simp [intOf]; omega
    · obtain rfl : i = nr := by omega
      have i7 : ¬ (i : Int) < (i : Int) := by omega
      have hre := unhide HR
      rw [List.take_of_length_le (by rw [unhide HRL]; exact Nat.le_refl _)] at hre
      have HRE := hide hre
      clear hre
      go_wp2_with fail
      exact bodyPost_end (v := .tuple #[]) (by simp [results, Try.results34]) rfl ⟨rfl, ⟨lab1, v, unhide HRE, unhide HA⟩, unhide HKP, unhide HB⟩

theorem RfL.pop {lo : Nat} {w : World} {lab : Nat → Nat} {b : Nat} {oa : Option Addr} {n co : Nat} {ar : Option Addr} {nr cr wb cw : Nat} {vl v' : Value} {os : List (List Int)} {rs : List Int} {wh : Nat → Bool} {f : Nat} {r : List Nat} (h : RfL lo w lab b oa n co ar nr cr wb cw vl ⟨os, rs, ⟨wh, f :: r⟩⟩) (hnd : NodG ⟨wh, f :: r⟩) (hf : f < n) (hv : v'.ownBlock = vl.ownBlock) (ho : OwnO lo w v' (ixL r)) : RfL lo ((w.setCell ⟨b, 3, none⟩ v').setCell ⟨wb, f, none⟩ (.bool true)) lab b oa n co ar nr cr wb cw v' ⟨os, rs, ⟨wh, r⟩⟩ := by
  have hl := h.lbs
  have hne : b ≠ wb := fun e => by rw [e] at hl; omega
  have hk : ∀ k, k ≠ b → k ≠ wb → ((w.setCell ⟨b, 3, none⟩ v').setCell ⟨wb, f, none⟩ (.bool true)).heap[k]? = w.heap[k]? := fun k k1 k2 => (Below.heap_setCell _ _ _ _ k2).trans (Below.heap_setCell _ _ _ _ k1)
  have hk2 : ∀ k, lab k ≠ 2 → lab k ≠ 3 → ((w.setCell ⟨b, 3, none⟩ v').setCell ⟨wb, f, none⟩ (.bool true)).heap[k]? = w.heap[k]? := fun k k1 k2 => hk k (fun e => k1 (by rw [e]; exact hl.1)) (fun e => k2 (by rw [e]; exact hl.2))
  have hz : w.heap.size ≤ ((w.setCell ⟨b, 3, none⟩ v').setCell ⟨wb, f, none⟩ (.bool true)).heap.size := by rw [size_set, size_set]; exact Nat.le_refl _
  have hth : (w.setCell ⟨b, 3, none⟩ v').there wb 0 cw := there_set h.bth _
  refine ⟨h.hn, h.hr, keep_set (set4_block h.blk) hne, ?_, fun f' hf' => ?_, h.reg.keep hz (fun k q => by have := h.rlb k q; exact hk2 k (by omega) (by omega)), h.rlb, there_set hth _, Nat.lt_of_lt_of_le h.bwl hz, h.bwe, fun x hx => ?_, ho.keep hz (fun k q => by rw [hv] at q; have := h.llb k q; exact hk2 k (by omega) (by omega)), fun k q => h.llb k (by rw [← hv]; exact q), hl, h.low⟩
  · rcases h.obj with q | ⟨bo, q1, q2, q3, q4, q5, q6⟩
    · exact Or.inl q
    · exact Or.inr ⟨bo, q1, there_keep q2 (hk2 bo (by omega) (by omega)), q3, Nat.lt_of_lt_of_le q4 hz, q5, q6⟩
  · obtain ⟨bo, a, c, p1, p2, p3, p4⟩ := h.row f' hf'
    obtain ⟨_, _, o1, _, o2⟩ := h.olo p1
    exact ⟨bo, a, c, p1, cell_of p2 (hk2 bo (by omega) (by omega)), p3.keep hz (fun k q => by have := p4 k q; exact hk2 k (by omega) (by omega)), p4⟩
  · have hfr : r.contains f = false := by
      rw [← Bool.not_eq_true, List.contains_iff_mem]
      exact (List.nodup_cons.1 hnd.nd).1
    show World.cell? _ ⟨wb, x, none⟩ = some (.bool (blkB ⟨wh, r⟩ x))
    by_cases e : x = f
    · subst e
      have hbk : blkB ⟨wh, r⟩ x = true := by
        unfold blkB
        dsimp only
        rw [show wh x = false from hnd.nw x (List.mem_cons_self ..), hfr]
        rfl
      rw [hbk]
      have h1 := cell_same hth (m := x) (Nat.lt_of_lt_of_le hf h.bwe) (.bool true)
      rwa [Nat.zero_add] at h1
    · have hbk : blkB ⟨wh, r⟩ x = blkB ⟨wh, f :: r⟩ x := by
        unfold blkB
        dsimp only
        rw [List.contains_cons]
        have : (x == f) = false := by simpa using e
        rw [this, Bool.false_or]
      rw [hbk]
      exact cell_other (cell_other (h.bla x hx) (Or.inl (Ne.symm hne)) _) (Or.inr e) _

set_option maxRecDepth 100000 in
set_option maxHeartbeats 4000000 in
theorem step_none {lo : Nat} {w : World} {lab : Nat → Nat} {b : Nat} {oa : Option Addr} {n co : Nat} {ar : Option Addr} {nr cr wb cw : Nat} {vl : Value} {g : Gm} (h : RfL lo w lab b oa n co ar nr cr wb cw vl g) (he : g.mm.ln = []) :
    Calls Try.prog 36 #[.pointer (some ⟨b, 0, none⟩)] w fun e w' => e = .returned (.tuple #[]) ∧ w' = w := by
  obtain ⟨a, c, evl⟩ := h.lin.form
  rw [he] at evl
  have e0 : (ixL []).length = 0 := rfl
  rw [e0] at evl
  subst evl
  obtain ⟨⟨m0, m1, m2, m3⟩, ⟨mf0, mf1, mf2, mf3⟩, ml⟩ := block4 h.blk
  clear h he
  go_enter Try.func36, Try.ntmps36
  go_wp2_with fail
  exact bodyPost_ret (v := .tuple #[]) (by simp [results, Try.results36]) rfl ⟨rfl, rfl⟩

set_option maxRecDepth 100000 in
set_option maxHeartbeats 4000000 in
theorem step_first {lo : Nat} {w : World} {lab : Nat → Nat} {b : Nat} {oa : Option Addr} {n co : Nat} {ar : Option Addr} {nr cr wb cw : Nat} {lg off lcap : Nat} {os : List (List Int)} {rs : List Int} {wh : Nat → Bool} {f : Nat} {r : List Nat} (h : RfL lo w lab b oa n co ar nr cr wb cw (.slice (some ⟨lg, off, none⟩) (ixL (f :: r)).length lcap) ⟨os, rs, ⟨wh, f :: r⟩⟩) (hnd : NodG ⟨wh, f :: r⟩) (hk : LnOk n ⟨wh, f :: r⟩) (hso : ∀ o ∈ os.getD f [], -1 ≤ o ∧ o < (n : Int)) (hns : (os.getD f []).length ≤ 20) (A : Option Addr) (hA : (lcap = 1 ∧ A = some ⟨lg, off, none⟩) ∨ (lcap ≠ 1 ∧ A = some ⟨lg, off + 1, none⟩)) :
    Calls Try.prog 36 #[.pointer (some ⟨b, 0, none⟩)] w fun e w' => e = .returned (.tuple #[]) ∧ RfS lo w' lab w.heap.size b oa n co ar nr cr wb cw ⟨os, rs, shadeL ⟨wh, r⟩ (os.getD f [])⟩ ∧ (∀ k, k < w.heap.size → lab k = 0 → w'.heap[k]? = w.heap[k]?) ∧ Below lo w w' := by
  obtain ⟨⟨m0, m1, m2, m3⟩, ⟨mf0, mf1, mf2, mf3⟩, ml⟩ := block4 h.blk
  have hA2 : A = if lcap = 1 then some ⟨lg, off, none⟩ else some ⟨lg, off + 1, none⟩ := by
    rcases hA with ⟨q1, q2⟩ | ⟨q1, q2⟩
    · rw [if_pos q1]; exact q2
    · rw [if_neg q1]; exact q2
  have htl := h.lin.tail A hA2
  have hcell := htl.2.1
  have hcapl := htl.2.2.1
  have hf : f < n := hk.lt f (List.mem_cons_self ..)
  have hblk : (Value.slice A (ixL r).length (lcap - 1)).ownBlock = (Value.slice (some ⟨lg, off, none⟩) (ixL (f :: r)).length lcap).ownBlock := by
    rcases hA with ⟨_, q2⟩ | ⟨_, q2⟩ <;> rw [q2] <;> rfl
  have hpop := h.pop hnd hf hblk htl.1
  have hl1 : (ixL (f :: r)).length = r.length + 1 := by rw [ixL_len]; rfl
  have hl2 : (ixL r).length = r.length := ixL_len r
  have hlb := h.lbs
  have hlow := h.low
  have hbb : b ≠ wb := fun e => by rw [e] at hlb; omega
  have hwb2 := h.bla f hf
  have hwf := (h.bth f (Nat.lt_of_lt_of_le hf h.bwe)).2
  rw [Nat.zero_add] at hwf
  have hsz := h.blt
  have hwz := h.bwl
  rw [hl1] at m3 hcapl
  rw [hl2] at hpop
  have hkp : ∀ k, k < w.heap.size → lab k = 0 → ((w.setCell ⟨b, 3, none⟩ (.slice A r.length (lcap - 1))).setCell ⟨wb, f, none⟩ (.bool true)).heap[k]? = w.heap[k]? := fun k _ k2 => (Below.heap_setCell _ _ _ _ (fun e => by have e2 : k = wb := e; rw [e2] at k2; omega)).trans (Below.heap_setCell _ _ _ _ (fun e => by have e2 : k = b := e; rw [e2] at k2; omega))
  have hbw : Below lo w ((w.setCell ⟨b, 3, none⟩ (.slice A r.length (lcap - 1))).setCell ⟨wb, f, none⟩ (.bool true)) := ((Below.refl lo w).setCell (p := ⟨b, 3, none⟩) hlow.1 _).setCell (p := ⟨wb, f, none⟩) hlow.2 _
  have hnd2 : NodG ⟨wh, r⟩ := ⟨(List.nodup_cons.1 hnd.nd).2, fun x hx => hnd.nw x (List.mem_cons_of_mem _ hx)⟩
  have hcn := hk.cnt
  have hk1 : LnOk n ⟨wh, r⟩ := ⟨fun x hx => hk.lt x (List.mem_cons_of_mem _ hx), by have h_ : cntW n ⟨wh, f :: r⟩ = cntW n ⟨wh, r⟩ := rfl; have h2_ : (f :: r).length = r.length + 1 := rfl; have hcn' : cntW n ⟨wh, f :: r⟩ + (f :: r).length ≤ 2000 := hcn; show cntW n ⟨wh, r⟩ + r.length ≤ 2000; omega⟩
  have HPOP := hide hpop; have HKP := hide hkp; have HBW := hide hbw; have HND := hide hnd2; have HK := hide hk1; have HSO := hide hso
  have HZ : Hid (w.heap.size ≤ ((w.setCell ⟨b, 3, none⟩ (.slice A r.length (lcap - 1))).setCell ⟨wb, f, none⟩ (.bool true)).heap.size) := by rw [size_set, size_set]; exact Nat.le_refl _
  have l0 : (((r.length + 1 : Nat) : Int) == 0) = false := by simp; omega
  have l1 : (1 : Int) ≤ ((r.length + 1 : Nat) : Int) := by omega
  have l2 : (0 : Int) < ((r.length + 1 : Nat) : Int) := by omega
  obtain ⟨L, eL⟩ : ∃ L, r.length = L := ⟨_, rfl⟩
  rw [eL] at m3 hcapl HPOP HKP HBW HZ l0 l1 l2
  have i1 : (0 : Int) ≤ (f : Int) := by omega
  have i2 : (f : Int) < (n : Int) := by omega
  have hwc : ∀ v, (w.setCell ⟨b, 3, none⟩ v).cell? ⟨wb, f, none⟩ = some (.bool (blkB ⟨wh, f :: r⟩ f)) := fun v => cell_other hwb2 (Or.inl (Ne.symm hbb)) v
  have hwd : ∀ v, (w.setCell ⟨b, 3, none⟩ v).cell? ⟨b, 2, none⟩ = some (.slice (some ⟨wb, 0, none⟩) n cw) := fun v => cell_other m2 (Or.inr (by decide)) v
  have hwf2 : ∀ v, (w.setCell ⟨b, 3, none⟩ v).frozen? ⟨wb, f, none⟩ = false := fun v => froz_of hwf (Below.heap_setCell _ _ _ _ (Ne.symm hbb))
  obtain ⟨mrow, emr⟩ : ∃ m, (os.getD f []).length = m := ⟨_, rfl⟩
  have HMR := hide emr
  rw [emr] at hns
  have hww : ∀ v, (w.setCell ⟨b, 3, none⟩ v).heap.size = w.heap.size := fun v => size_set _ _ _ _
  have HE0 : Hid (RfL lo ((w.setCell ⟨b, 3, none⟩ (.slice A L (lcap - 1))).setCell ⟨wb, f, none⟩ (.bool true)) lab b oa n co ar nr cr wb cw (.slice A L (lcap - 1)) ⟨os, rs, shadeL ⟨wh, r⟩ ((os.getD f []).take 0)⟩) := by rw [List.take_zero]; exact unhide HPOP
  clear h hnd hk hso htl hpop hl1 hl2 hblk hbw hkp hnd2 hk1 hcn emr hlb hA2 hwb2 hwf HPOP eL
  have hfin : ∀ (K : Nat), True := fun _ => trivial
  clear hfin
  rcases hA with ⟨rfl, rfl⟩ | ⟨hc1, rfl⟩
  · have eL0 : L = 0 := by omega
    subst eL0
    simp only [Nat.sub_self] at HE0 HKP HBW HZ
    go_enter Try.func36, Try.ntmps36
    go_upto_region 3 with fail
    have c2 := hwd (.slice (some ⟨lg, off, none⟩) 0 0)
    have c3 := hwc (.slice (some ⟨lg, off, none⟩) 0 0)
    have c4 := hwf2 (.slice (some ⟨lg, off, none⟩) 0 0)
    go_upto_region 4 with fail
    obtain ⟨W0, eW⟩ : ∃ X, (w.setCell ⟨b, 3, none⟩ (.slice (some ⟨lg, off, none⟩) 0 0)).setCell ⟨wb, f, none⟩ (.bool true) = X := ⟨_, rfl⟩
    rw [eW] at HE0 HKP HBW HZ
    rw [eW]
    clear eW c2 c3 c4 hwc hwd hwf2 m0 m1 m2 m3 mf0 mf1 mf2 mf3 ml hcell hww
    go_wp2_with fail
    go_loopw [3] (fun s3 wr => ∃ (i : Nat) (lab1 : Nat → Nat) (v : Value), i ≤ mrow ∧ s3 = .int .i64 (i : Int) ∧ Hid (RfL lo wr lab1 b oa n co ar nr cr wb cw v ⟨os, rs, shadeL ⟨wh, r⟩ ((os.getD f []).take i)⟩) ∧ Hid (∀ k, k < w.heap.size → lab1 k = lab k) ∧ Hid (∀ k, k < w.heap.size → lab k = 0 → wr.heap[k]? = w.heap[k]?) ∧ Hid (w.heap.size ≤ wr.heap.size) ∧ Hid (Below lo w wr)) (fun s3 _ => mrow - (intOf s3).toNat)
    case atStart => exact ⟨0, lab, _, Nat.zero_le _, rfl, HE0, hide (fun _ _ => rfl), HKP, HZ, HBW⟩
    case round =>
      obtain ⟨i, lab1, v, hi, rfl, HR, HA, HKP1, HSZ, HB⟩ := hrel
      clear HE0 HKP HBW HZ
      obtain ⟨⟨m0, m1, m2, m3⟩, ⟨mf0, mf1, mf2, mf3⟩, ml⟩ := block4 (unhide HR).blk
      obtain ⟨bo, ra, rc, eoa, p2, p3, _⟩ := (unhide HR).row f hf
      change wr.cell? ⟨bo, f, none⟩ = some (.slice ra (os.getD f []).length rc) at p2
      have p3' : OwnO lo wr (.slice ra (os.getD f []).length rc) (os.getD f []) := p3
      rw [unhide HMR] at p2 p3'
      by_cases hin : i < mrow
      · have i6 : (0 : Int) ≤ (i : Int) := by omega
        have i7 : (i : Int) < (mrow : Int) := by omega
        have hw1 : IntKind.i64.wrap ((i : Int) + 1) = (i : Int) + 1 := wrapi (by omega) (by omega)
        obtain ⟨rb, ro, rfl, hrb, hli⟩ := p3'.isl.opens ki (unhide HMR) (by omega)
        have r1 := hli.ints (j := i) (by rw [unhide HMR]; exact hin)
        have hlk := lnOk_take (unhide HK) (unhide HSO) i
        have hcn := hlk.cnt
        have HSH := hide (rshade_any (unhide HR) ((unhide HND).shadeL _) (by show (shadeL ⟨wh, r⟩ ((os.getD f []).take i)).ln.length ≤ 900000; omega) ((os.getD f []).getD i 0) (unhide HSO _ (getD_mem (by rw [unhide HMR]; exact hin))))
        have HTK := hide (shadeL_take ⟨wh, r⟩ (os.getD f []) (i := i) (by rw [unhide HMR]; exact hin))
        obtain ⟨y, ey⟩ : ∃ y, (os.getD f []).getD i 0 = y := ⟨_, rfl⟩
        rw [ey] at r1 HSH HTK
        subst eoa
        clear hlk hcn ey hli p3 p3'
        go_wp2_with (go_at_call 47; (with_reducible refine Calls.mono (unhide HSH) ?_); rintro e w5 ⟨rfl, h5, hk5, hb5⟩; have H5 := hide h5; have HK5 := hide hk5; have HB5 := hide hb5; clear h5 hk5 hb5)
        have hst := RfS.step (unhide HR) (unhide HA) (unhide HKP1) (unhide HSZ) (unhide HB) (unhide H5) (unhide HK5) (unhide HB5)
        have hsz5 := (unhide HB5).size
        obtain ⟨⟨lab2, v2, q1, q2⟩, q3, q4⟩ := hst
        go_roundw
        case rel => exact ⟨i + 1, lab2, v2, by omega, by go_num, by rw [unhide HTK]; exact q1, q2, q3, Nat.le_trans (unhide HSZ) hsz5, q4⟩
        case measure => simp [intOf]; omega
      · obtain rfl : i = mrow := by omega
        have i7 : ¬ (i : Int) < (i : Int) := by omega
        have hre := unhide HR
        rw [List.take_of_length_le (by rw [unhide HMR]; exact Nat.le_refl _)] at hre
        have HRE := hide hre
        subst eoa
        clear hre p3 p3'
        go_wp2_with fail
        exact bodyPost_end (v := .tuple #[]) (by simp [results, Try.results36]) rfl ⟨rfl, ⟨lab1, v, unhide HRE, unhide HA⟩, unhide HKP1, unhide HB⟩
  · have l0b : ((L : Int) + 1 == 0) = false := by simp; omega
    go_enter Try.func36, Try.ntmps36
    go_upto_region 3 with fail
    have c2 := hwd (.slice (some ⟨lg, off + 1, none⟩) L (lcap - 1))
    have c3 := hwc (.slice (some ⟨lg, off + 1, none⟩) L (lcap - 1))
    have c4 := hwf2 (.slice (some ⟨lg, off + 1, none⟩) L (lcap - 1))
    go_upto_region 4 with fail
    obtain ⟨W0, eW⟩ : ∃ X, (w.setCell ⟨b, 3, none⟩ (.slice (some ⟨lg, off + 1, none⟩) L (lcap - 1))).setCell ⟨wb, f, none⟩ (.bool true) = X := ⟨_, rfl⟩
    rw [eW] at HE0 HKP HBW HZ
    rw [eW]
    clear eW c2 c3 c4 hwc hwd hwf2 m0 m1 m2 m3 mf0 mf1 mf2 mf3 ml hcell hww
    go_wp2_with fail
    go_loopw [3] (fun s3 wr => ∃ (i : Nat) (lab1 : Nat → Nat) (v : Value), i ≤ mrow ∧ s3 = .int .i64 (i : Int) ∧ Hid (RfL lo wr lab1 b oa n co ar nr cr wb cw v ⟨os, rs, shadeL ⟨wh, r⟩ ((os.getD f []).take i)⟩) ∧ Hid (∀ k, k < w.heap.size → lab1 k = lab k) ∧ Hid (∀ k, k < w.heap.size → lab k = 0 → wr.heap[k]? = w.heap[k]?) ∧ Hid (w.heap.size ≤ wr.heap.size) ∧ Hid (Below lo w wr)) (fun s3 _ => mrow - (intOf s3).toNat)
    case atStart => exact ⟨0, lab, _, Nat.zero_le _, rfl, HE0, hide (fun _ _ => rfl), HKP, HZ, HBW⟩
    case round =>
      obtain ⟨i, lab1, v, hi, rfl, HR, HA, HKP1, HSZ, HB⟩ := hrel
      clear HE0 HKP HBW HZ
      obtain ⟨⟨m0, m1, m2, m3⟩, ⟨mf0, mf1, mf2, mf3⟩, ml⟩ := block4 (unhide HR).blk
      obtain ⟨bo, ra, rc, eoa, p2, p3, _⟩ := (unhide HR).row f hf
      change wr.cell? ⟨bo, f, none⟩ = some (.slice ra (os.getD f []).length rc) at p2
      have p3' : OwnO lo wr (.slice ra (os.getD f []).length rc) (os.getD f []) := p3
      rw [unhide HMR] at p2 p3'
      by_cases hin : i < mrow
      · have i6 : (0 : Int) ≤ (i : Int) := by omega
        have i7 : (i : Int) < (mrow : Int) := by omega
        have hw1 : IntKind.i64.wrap ((i : Int) + 1) = (i : Int) + 1 := wrapi (by omega) (by omega)
        obtain ⟨rb, ro, rfl, hrb, hli⟩ := p3'.isl.opens ki (unhide HMR) (by omega)
        have r1 := hli.ints (j := i) (by rw [unhide HMR]; exact hin)
        have hlk := lnOk_take (unhide HK) (unhide HSO) i
        have hcn := hlk.cnt
        have HSH := hide (rshade_any (unhide HR) ((unhide HND).shadeL _) (by show (shadeL ⟨wh, r⟩ ((os.getD f []).take i)).ln.length ≤ 900000; omega) ((os.getD f []).getD i 0) (unhide HSO _ (getD_mem (by rw [unhide HMR]; exact hin))))
        have HTK := hide (shadeL_take ⟨wh, r⟩ (os.getD f []) (i := i) (by rw [unhide HMR]; exact hin))
        obtain ⟨y, ey⟩ : ∃ y, (os.getD f []).getD i 0 = y := ⟨_, rfl⟩
        rw [ey] at r1 HSH HTK
        subst eoa
        clear hlk hcn ey hli p3 p3'
        go_wp2_with (go_at_call 47; (with_reducible refine Calls.mono (unhide HSH) ?_); rintro e w5 ⟨rfl, h5, hk5, hb5⟩; have H5 := hide h5; have HK5 := hide hk5; have HB5 := hide hb5; clear h5 hk5 hb5)
        have hst := RfS.step (unhide HR) (unhide HA) (unhide HKP1) (unhide HSZ) (unhide HB) (unhide H5) (unhide HK5) (unhide HB5)
        have hsz5 := (unhide HB5).size
        obtain ⟨⟨lab2, v2, q1, q2⟩, q3, q4⟩ := hst
        go_roundw
        case rel => exact ⟨i + 1, lab2, v2, by omega, by go_num, by rw [unhide HTK]; exact q1, q2, q3, Nat.le_trans (unhide HSZ) hsz5, q4⟩
        case measure => simp [intOf]; omega
      · obtain rfl : i = mrow := by omega
        have i7 : ¬ (i : Int) < (i : Int) := by omega
        have hre := unhide HR
        rw [List.take_of_length_le (by rw [unhide HMR]; exact Nat.le_refl _)] at hre
        have HRE := hide hre
        subst eoa
        clear hre p3 p3'
        go_wp2_with fail
        exact bodyPost_end (v := .tuple #[]) (by simp [results, Try.results36]) rfl ⟨rfl, ⟨lab1, v, unhide HRE, unhide HA⟩, unhide HKP1, unhide HB⟩

theorem step_any {lo : Nat} {w : World} {lab : Nat → Nat} {b : Nat} {oa : Option Addr} {n co : Nat} {ar : Option Addr} {nr cr wb cw : Nat} {vl : Value} {g : Gm} (h : RfL lo w lab b oa n co ar nr cr wb cw vl g) (hg : GoodR g.os n) (hnd : NodG g.mm) (hk : LnOk n g.mm) :
    Calls Try.prog 36 #[.pointer (some ⟨b, 0, none⟩)] w fun e w' => e = .returned (.tuple #[]) ∧ RfS lo w' lab w.heap.size b oa n co ar nr cr wb cw ⟨g.os, g.rs, markM g.os g.mm⟩ ∧ (∀ k, k < w.heap.size → lab k = 0 → w'.heap[k]? = w.heap[k]?) ∧ Below lo w w' := by
  obtain ⟨os, rs, ⟨wh, ln⟩⟩ := g
  cases ln with
  | nil => exact (step_none h rfl).mono fun e w' ⟨h1, h2⟩ => by subst h2; exact ⟨h1, ⟨lab, vl, h, fun _ _ => rfl⟩, fun _ _ _ => rfl, Below.refl _ _⟩
  | cons f r =>
    have hf : f < n := hk.lt f (List.mem_cons_self ..)
    rcases h.lin with ⟨_, q⟩ | ⟨lg, off, cap, q, _⟩
    · cases q
    · subst q
      by_cases hc : cap = 1
      · exact step_first h hnd hk (hg.so f hf) (hg.ns f hf) (some ⟨lg, off, none⟩) (Or.inl ⟨hc, rfl⟩)
      · exact step_first h hnd hk (hg.so f hf) (hg.ns f hf) (some ⟨lg, off + 1, none⟩) (Or.inr ⟨hc, rfl⟩)
theorem NodG.markM {m : Mk} (h : NodG m) (os : List (List Int)) : NodG (markM os m) := by
  obtain ⟨wh, ln⟩ := m
  cases ln with
  | nil => exact h
  | cons f r => exact NodG.shadeL (m := ⟨wh, r⟩) ⟨(List.nodup_cons.1 h.nd).2, fun x hx => h.nw x (List.mem_cons_of_mem _ hx)⟩ _


set_option maxRecDepth 100000 in
set_option maxHeartbeats 4000000 in
theorem there_neg {lo : Nat} {w : World} {lab : Nat → Nat} {b : Nat} {oa : Option Addr} {n co : Nat} {ar : Option Addr} {nr cr wb cw : Nat} {vl : Value} {g : Gm} (h : RfL lo w lab b oa n co ar nr cr wb cw vl g) (a s : Int) (h1 : ¬ 0 ≤ a) :
    Calls Try.prog 48 #[.pointer (some ⟨b, 0, none⟩), .int .i64 a, .int .i64 s] w fun e w' => e = .returned (.bool false) ∧ Below w.heap.size w w' := by
  obtain ⟨⟨m0, m1, m2, m3⟩, ⟨mf0, mf1, mf2, mf3⟩, ml⟩ := block4 h.blk
  have d1 : decide (0 ≤ a) = false := decide_eq_false h1
  clear h
  go_enter Try.func48, Try.ntmps48
  go_upto_region 1 with fail
  go_quiet (fail)
  go_wp2_with fail
  go_ret
  exact ⟨rfl, below_drewN (Below.refl _ _) _⟩

set_option maxRecDepth 100000 in
set_option maxHeartbeats 4000000 in
theorem there_big {lo : Nat} {w : World} {lab : Nat → Nat} {b : Nat} {oa : Option Addr} {n co : Nat} {ar : Option Addr} {nr cr wb cw : Nat} {vl : Value} {g : Gm} (h : RfL lo w lab b oa n co ar nr cr wb cw vl g) (a s : Int) (h1 : 0 ≤ a) (h2 : ¬ a < (nr : Int)) :
    Calls Try.prog 48 #[.pointer (some ⟨b, 0, none⟩), .int .i64 a, .int .i64 s] w fun e w' => e = .returned (.bool false) ∧ Below w.heap.size w w' := by
  obtain ⟨⟨m0, m1, m2, m3⟩, ⟨mf0, mf1, mf2, mf3⟩, ml⟩ := block4 h.blk
  have d1 : decide (0 ≤ a) = true := decide_eq_true h1
  have d2 : decide (a < (nr : Int)) = false := decide_eq_false h2
  clear h
  go_enter Try.func48, Try.ntmps48
  go_upto_region 1 with fail
  go_quiet (fail)
  go_wp2_with fail
  go_ret
  exact ⟨rfl, below_drewN (Below.refl _ _) _⟩

set_option maxRecDepth 100000 in
set_option maxHeartbeats 4000000 in
theorem there_none {lo : Nat} {w : World} {lab : Nat → Nat} {b : Nat} {oa : Option Addr} {n co : Nat} {ar : Option Addr} {nr cr wb cw : Nat} {vl : Value} {g : Gm} (h : RfL lo w lab b oa n co ar nr cr wb cw vl g) (i : Nat) (s : Int) (hi : i < nr) (hq : regG g (i : Int) = -1) :
    Calls Try.prog 48 #[.pointer (some ⟨b, 0, none⟩), .int .i64 (i : Int), .int .i64 s] w fun e w' => e = .returned (.bool false) ∧ Below w.heap.size w w' := by
  obtain ⟨⟨m0, m1, m2, m3⟩, ⟨mf0, mf1, mf2, mf3⟩, ml⟩ := block4 h.blk
  obtain ⟨gb, go, ear, r1, _⟩ := h.regAt hi
  rw [← regG_at, hq] at r1
  have i1 : (0 : Int) ≤ (i : Int) := by omega
  have i2 : (i : Int) < (nr : Int) := by omega
  have d1 : decide ((0 : Int) ≤ (i : Int)) = true := decide_eq_true i1
  have d2 : decide ((i : Int) < (nr : Int)) = true := decide_eq_true i2
  subst ear
  clear h
  go_enter Try.func48, Try.ntmps48
  go_upto_region 1 with fail
  go_quiet (fail)
  go_wp2_with fail
  go_ret
  exact ⟨rfl, below_drewN (Below.refl _ _) _⟩

set_option maxRecDepth 100000 in
set_option maxHeartbeats 4000000 in
theorem there_low {lo : Nat} {w : World} {lab : Nat → Nat} {b : Nat} {oa : Option Addr} {n co : Nat} {ar : Option Addr} {nr cr wb cw : Nat} {vl : Value} {g : Gm} (h : RfL lo w lab b oa n co ar nr cr wb cw vl g) (i f : Nat) (s : Int) (hi : i < nr) (hq : regG g (i : Int) = (f : Int)) (hf : f < n) (h1 : ¬ 0 ≤ s) :
    Calls Try.prog 48 #[.pointer (some ⟨b, 0, none⟩), .int .i64 (i : Int), .int .i64 s] w fun e w' => e = .returned (.bool false) ∧ Below w.heap.size w w' := by
  obtain ⟨⟨m0, m1, m2, m3⟩, ⟨mf0, mf1, mf2, mf3⟩, ml⟩ := block4 h.blk
  obtain ⟨gb, go, ear, r1, _⟩ := h.regAt hi
  rw [← regG_at, hq] at r1
  have i1 : (0 : Int) ≤ (i : Int) := by omega
  have i2 : (i : Int) < (nr : Int) := by omega
  have d1 : decide ((0 : Int) ≤ (i : Int)) = true := decide_eq_true i1
  have d2 : decide ((i : Int) < (nr : Int)) = true := decide_eq_true i2
  subst ear
  have i3 : (0 : Int) ≤ (f : Int) := by omega
  have i4 : (f : Int) < (n : Int) := by omega
  have d3 : decide ((0 : Int) ≤ (f : Int)) = true := decide_eq_true i3
  have d4 : decide (0 ≤ s) = false := decide_eq_false h1
  clear h
  go_enter Try.func48, Try.ntmps48
  go_upto_region 1 with fail
  go_quiet (fail)
  go_wp2_with fail
  go_ret
  exact ⟨rfl, below_drewN (Below.refl _ _) _⟩

set_option maxRecDepth 100000 in
set_option maxHeartbeats 4000000 in
theorem there_high {lo : Nat} {w : World} {lab : Nat → Nat} {b : Nat} {oa : Option Addr} {n co : Nat} {ar : Option Addr} {nr cr wb cw : Nat} {vl : Value} {g : Gm} (h : RfL lo w lab b oa n co ar nr cr wb cw vl g) (i f m : Nat) (s : Int) (hi : i < nr) (hq : regG g (i : Int) = (f : Int)) (hf : f < n) (hm : (g.os.getD f []).length = m) (h1 : 0 ≤ s) (h2 : ¬ s < (m : Int)) :
    Calls Try.prog 48 #[.pointer (some ⟨b, 0, none⟩), .int .i64 (i : Int), .int .i64 s] w fun e w' => e = .returned (.bool false) ∧ Below w.heap.size w w' := by
  obtain ⟨⟨m0, m1, m2, m3⟩, ⟨mf0, mf1, mf2, mf3⟩, ml⟩ := block4 h.blk
  obtain ⟨gb, go, ear, r1, _⟩ := h.regAt hi
  rw [← regG_at, hq] at r1
  have i1 : (0 : Int) ≤ (i : Int) := by omega
  have i2 : (i : Int) < (nr : Int) := by omega
  have d1 : decide ((0 : Int) ≤ (i : Int)) = true := decide_eq_true i1
  have d2 : decide ((i : Int) < (nr : Int)) = true := decide_eq_true i2
  subst ear
  have i3 : (0 : Int) ≤ (f : Int) := by omega
  have i4 : (f : Int) < (n : Int) := by omega
  have d3 : decide ((0 : Int) ≤ (f : Int)) = true := decide_eq_true i3
  obtain ⟨bo, ra, rc, eoa, q4, _, _⟩ := h.row f hf
  rw [hm] at q4
  subst eoa
  have d4 : decide (0 ≤ s) = true := decide_eq_true h1
  have d5 : decide (s < (m : Int)) = false := decide_eq_false h2
  clear h
  go_enter Try.func48, Try.ntmps48
  go_upto_region 1 with fail
  go_quiet (fail)
  go_wp2_with fail
  go_ret
  exact ⟨rfl, below_drewN (Below.refl _ _) _⟩

set_option maxRecDepth 100000 in
set_option maxHeartbeats 4000000 in
theorem there_yes {lo : Nat} {w : World} {lab : Nat → Nat} {b : Nat} {oa : Option Addr} {n co : Nat} {ar : Option Addr} {nr cr wb cw : Nat} {vl : Value} {g : Gm} (h : RfL lo w lab b oa n co ar nr cr wb cw vl g) (i f m : Nat) (s : Int) (hi : i < nr) (hq : regG g (i : Int) = (f : Int)) (hf : f < n) (hm : (g.os.getD f []).length = m) (h1 : 0 ≤ s) (h2 : s < (m : Int)) :
    Calls Try.prog 48 #[.pointer (some ⟨b, 0, none⟩), .int .i64 (i : Int), .int .i64 s] w fun e w' => e = .returned (.bool true) ∧ Below w.heap.size w w' := by
  obtain ⟨⟨m0, m1, m2, m3⟩, ⟨mf0, mf1, mf2, mf3⟩, ml⟩ := block4 h.blk
  obtain ⟨gb, go, ear, r1, _⟩ := h.regAt hi
  rw [← regG_at, hq] at r1
  have i1 : (0 : Int) ≤ (i : Int) := by omega
  have i2 : (i : Int) < (nr : Int) := by omega
  have d1 : decide ((0 : Int) ≤ (i : Int)) = true := decide_eq_true i1
  have d2 : decide ((i : Int) < (nr : Int)) = true := decide_eq_true i2
  subst ear
  have i3 : (0 : Int) ≤ (f : Int) := by omega
  have i4 : (f : Int) < (n : Int) := by omega
  have d3 : decide ((0 : Int) ≤ (f : Int)) = true := decide_eq_true i3
  obtain ⟨bo, ra, rc, eoa, q4, _, _⟩ := h.row f hf
  rw [hm] at q4
  subst eoa
  have d4 : decide (0 ≤ s) = true := decide_eq_true h1
  have d5 : decide (s < (m : Int)) = true := decide_eq_true h2
  clear h
  go_enter Try.func48, Try.ntmps48
  go_upto_region 1 with fail
  go_quiet (fail)
  go_wp2_with fail
  go_ret
  exact ⟨rfl, below_drewN (Below.refl _ _) _⟩

theorem there_any {lo : Nat} {w : World} {lab : Nat → Nat} {b : Nat} {oa : Option Addr} {n co : Nat} {ar : Option Addr} {nr cr wb cw : Nat} {vl : Value} {g : Gm} (h : RfL lo w lab b oa n co ar nr cr wb cw vl g) (hg : GoodG g) (a s : Int) :
    Calls Try.prog 48 #[.pointer (some ⟨b, 0, none⟩), .int .i64 a, .int .i64 s] w fun e w' => e = .returned (.bool (hasSlB g a s)) ∧ Below w.heap.size w w' := by
  have hr := h.hr
  have hn := h.hn
  by_cases h1 : 0 ≤ a
  · by_cases h2 : a < (nr : Int)
    · obtain ⟨i, rfl⟩ : ∃ i : Nat, a = (i : Int) := ⟨a.toNat, by omega⟩
      have hi : i < nr := by omega
      have hb : hasRB g.rs.length (i : Int) = true := by unfold hasRB; rw [hr, decide_eq_true h1, decide_eq_true h2]; rfl
      rcases hg.reg (by rw [hr]; exact hi) with hq | ⟨f, hq, hf⟩
      · have e : hasSlB g (i : Int) s = false := by unfold hasSlB; rw [hb, hq]; rfl
        rw [e]; exact there_none h i s hi hq
      · obtain ⟨m, hm⟩ : ∃ m, (g.os.getD f []).length = m := ⟨_, rfl⟩
        have e0 : hasSlB g (i : Int) s = (decide (0 ≤ s) && decide (s < (m : Int))) := by unfold hasSlB; rw [hb, hq, rowG_at hq, hm, decide_eq_false (by omega : ¬ (f : Int) = -1)]; rfl
        rw [e0]
        by_cases s1 : 0 ≤ s
        · by_cases s2 : s < (m : Int)
          · rw [decide_eq_true s1, decide_eq_true s2]; exact there_yes h i f m s hi hq (by omega) hm s1 s2
          · rw [decide_eq_true s1, decide_eq_false s2]; exact there_high h i f m s hi hq (by omega) hm s1 s2
        · rw [decide_eq_false s1]; exact there_low h i f s hi hq (by omega) s1
    · have e : hasSlB g a s = false := by unfold hasSlB hasRB; rw [hr, decide_eq_false h2, Bool.and_false]; rfl
      rw [e]; exact there_big h a s h1 h2
  · have e : hasSlB g a s = false := by unfold hasSlB hasRB; rw [decide_eq_false h1]; rfl
    rw [e]; exact there_neg h a s h1
end Go.Proofs.Ytmkehjncnaokoaa
