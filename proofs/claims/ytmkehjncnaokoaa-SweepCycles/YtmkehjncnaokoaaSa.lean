/-
  sweep.cycle: acts as they are read; GcMark whatever is grey; its end, whatever its barrier, in a heap that nobody changes.
-/
import Derived.Test.YtmkehjncnaokoaaZb
namespace Go.Proofs.Ytmkehjncnaokoaa
open Go.RowKit

/-- Acts. -/
structure Ac where
  op : Int
  a : Int
  b : Int
  c : Int
def ac0 : Ac := ⟨0, 0, 0, 0⟩
def acM : Ac := ⟨5, 0, 0, 0⟩
def KA : Kind Ac := ⟨fun x => [.int .i64 x.op, .int .i64 x.a, .int .i64 x.b, .int .i64 x.c], 4, 47, 40, 32, ac0⟩
theorem infoKA : (Try.prog.info? 47).map (fun i => (i.zero, i.size, i.bytes)) = some (some (.agg #[.int .i64 0, .int .i64 0, .int .i64 0, .int .i64 0]), 4, 32) := by kernel_rfl
theorem ka : KA.Ok := by
  refine ⟨fun _ => rfl, fun x u hu => ?_, by decide, by decide, Try.underlying40, ?_⟩
  · simp only [KA, List.mem_cons, List.not_mem_nil, or_false] at hu; rcases hu with rfl | rfl | rfl | rfl <;> rfl
  · obtain ⟨i0, hi, h0, h1, h2⟩ := info_parts infoKA
    exact ⟨i0, _, hi, h0, h1, h2, rfl⟩
theorem Lies.acts {w : World} {b off : Nat} {l : List Ac} (h : Lies KA w b off l) {j : Nat} (hj : j < l.length) {op x y z : Int} (he : l.getD j ac0 = ⟨op, x, y, z⟩) : w.cell? ⟨b, off + j * 4, none⟩ = some (.int .i64 op) ∧ w.cell? ⟨b, off + j * 4 + 1, none⟩ = some (.int .i64 x) ∧ w.cell? ⟨b, off + j * 4 + 2, none⟩ = some (.int .i64 y) ∧ w.cell? ⟨b, off + j * 4 + 3, none⟩ = some (.int .i64 z) := by
  refine ⟨h j 0 _ hj ?_, h j 1 _ hj ?_, h j 2 _ hj ?_, h j 3 _ hj ?_⟩ <;> (show (KA.f (l.getD j ac0))[_]? = _; rw [he]; rfl)
theorem shadeL_met {s : Mk} : ∀ {rs : List Int}, (∀ o ∈ rs, o = -1 ∨ s.wh o.toNat = false) → shadeL s rs = s
  | [], _ => rfl
  | o :: r, h => by
    have e : shade1 s o = s := by
      unfold shade1
      rw [if_neg]
      rintro ⟨h1, h2⟩
      rcases h o (List.mem_cons_self ..) with q | q
      · exact h1 q
      · rw [h2] at q; cases q
    rw [shadeL_cons, e]
    exact shadeL_met (fun x hx => h x (List.mem_cons_of_mem _ hx))
theorem Inv.shadeR {os : List (List Int)} {rs : List Int} {s : Mk} (h : Inv os rs s) (hg : GoodH os rs) : shadeL s rs = s := shadeL_met fun o ho => by
  have := (hg.ro o ho).1
  by_cases e : o = -1
  · exact Or.inl e
  · exact Or.inr (h.rt o.toNat (by rw [show ((o.toNat : Nat) : Int) = o by omega]; exact ho))

set_option maxRecDepth 100000 in
set_option maxHeartbeats 4000000 in
theorem do_none {cw : Nat} (w : World) (cb b wb lo n : Nat) (vO vR vl : Value) (z : Int) (wh : Nat → Bool) (hc : CycAt w cb b wb vl z) (h : MkAt lo w b n cw vO vR wb vl ⟨wh, []⟩) :
    Calls Try.prog 32 #[.pointer (some ⟨cb, 0, none⟩), .agg #[.int .i64 5, .int .i64 0, .int .i64 0, .int .i64 0]] w fun e w' => e = .returned (.tuple #[]) ∧ MkAt lo w' b n cw vO vR wb vl ⟨wh, []⟩ ∧ Kp w w' b wb vl vl ∧ Below lo w w' := by
  have hx := (Below.refl w.heap.size w).alloc (Nat.le_refl _) (.cells #[.int .i64 5, .int .i64 0, .int .i64 0, .int .i64 0] 47)
  have HQ := hide (new_block w (.cells #[.int .i64 5, .int .i64 0, .int .i64 0, .int .i64 0] 47))
  obtain ⟨W0, e0⟩ : ∃ X, w.alloc (.cells #[.int .i64 5, .int .i64 0, .int .i64 0, .int .i64 0] 47) = X := ⟨_, rfl⟩
  rw [e0] at hx HQ
  have HE := hide e0
  have hk : Kp w W0 b wb vl vl := Kp.of_below hx
  have HC := hide (hc.kp hk)
  have HMK := hide (mark_none W0 lo b n vO vR wb vl wh (h.below hx))
  have HM := hide (h.below hx)
  have HK := hide hk
  have HB : Hid (Below lo w W0) := hx.mono (Nat.le_of_lt (Nat.lt_of_le_of_lt h.lob.1 h.blt))
  clear e0 hx hk hc h
  go_enter Try.func32, Try.ntmps32
  go_upto_region 1 with fail
  rw [unhide HE]
  clear HE
  obtain ⟨⟨q0, q1, q2, q3⟩, -, ql⟩ := block4 (unhide HQ)
  obtain ⟨c0, c1, cf0, cf1, cl⟩ := block2 (unhide HC).blk
  go_wp2_with (go_at_call 38; (with_reducible refine Calls.mono (unhide HMK) ?_); rintro e w5 ⟨rfl, rfl⟩)
  first
    | exact bodyPost_end (v := .tuple #[]) (by simp [results, Try.results32]) rfl ⟨rfl, unhide HM, unhide HK, unhide HB⟩
    | exact bodyPost_ret (v := .tuple #[]) (by simp [results, Try.results32]) rfl ⟨rfl, unhide HM, unhide HK, unhide HB⟩

theorem do_any {cw : Nat} (w : World) (cb b wb lo n : Nat) (vO vR vl : Value) (z : Int) (s : Mk) (hc : CycAt w cb b wb vl z) (h : MkAt lo w b n cw vO vR wb vl s) (os : List (List Int)) (hg : GoodR os n) (hr : Rr w b wb vl vO os) (hk : LnOk n s) :
    Calls Try.prog 32 #[.pointer (some ⟨cb, 0, none⟩), .agg #[.int .i64 5, .int .i64 0, .int .i64 0, .int .i64 0]] w fun e w' => e = .returned (.tuple #[]) ∧ ∃ vl', MkAt lo w' b n cw vO vR wb vl' (markM os s) ∧ LnOk n (markM os s) ∧ Kp w w' b wb vl vl' ∧ Below lo w w' := by
  obtain ⟨wh, ln⟩ := s
  cases ln with
  | nil => exact (do_none w cb b wb lo n vO vR vl z wh hc h).mono fun e w' ⟨h1, h2, h3, h4⟩ => ⟨h1, vl, h2, hk, h3, h4⟩
  | cons f r =>
    have hfn : f < n := hk.lt f (List.mem_cons_self ..)
    have hcn := hk.cnt
    have hln : (f :: r).length = r.length + 1 := rfl
    simp only [hln] at hcn
    have hk1 : LnOk n ⟨wh, r⟩ := ⟨fun x hx => hk.lt x (List.mem_cons_of_mem _ hx), by have h_ : cntW n ⟨wh, f :: r⟩ = cntW n ⟨wh, r⟩ := rfl; show cntW n ⟨wh, r⟩ + r.length ≤ 2000; omega⟩
    exact (do_mark w cb b wb lo n vO vR vl z wh f r hc h os hg.no hr hfn (hg.so f hfn) (hg.ns f hfn) (by omega)).mono fun e w' ⟨h1, vl', h2, h3, h4⟩ => ⟨h1, vl', h2, hk1.shade (hg.so f hfn), h3, h4⟩

set_option maxRecDepth 100000 in
set_option maxHeartbeats 4000000 in
theorem end_one {cw : Nat} (w : World) (cb b wb lo lo2 n : Nat) (vO : Value) (ar : Option Addr) (nr cr : Nat) (vl : Value) (s : Mk) (os : List (List Int)) (rs : List Int) (hgh : GoodH os rs) (hi : Inv os rs s) (hc : CycAt w cb b wb vl 1) (h : MkAt lo w b n cw vO (.slice ar nr cr) wb vl s) (hg : GoodR os n) (hr : Rr w b wb vl vO os) (ht : RtL lo2 w b wb vl ar nr cr rs) (hk : LnOk n s) :
    Calls Try.prog 33 #[.pointer (some ⟨cb, 0, none⟩)] w fun e w' => e = .returned (.tuple #[]) ∧ ∃ vl' s', MkAt lo w' b n cw vO (.slice ar nr cr) wb vl' s' ∧ Inv os rs s' ∧ s'.ln = [] ∧ LnOk n s' ∧ Kp w w' b wb vl vl' ∧ Below lo w w' := by
  have HF := hide (finish_any w lo b n vO (.slice ar nr cr) wb vl s h os hg hr hk)
  have HC := hide hc; have HR := hide hr; have HT := hide ht; have HG := hide hg; have HGH := hide hgh; have HI := hide hi
  obtain ⟨c0, c1, cf0, cf1, cl⟩ := block2 hc.blk
  clear hc h hg hr hk ht hgh hi
  go_enter Try.func33, Try.ntmps33
  go_upto_region 2 with (go_at_call 26; (with_reducible refine Calls.mono (unhide HF) ?_); rintro e w5 ⟨rfl, vl', s', hm5, hs5, hl5, hn5, hk5, hb5⟩; have HM5 := hide hm5; have HS5 := hide hs5; have HL5 := hide hl5; have HN5 := hide hn5; have HK5 := hide hk5; have HB5 := hide hb5; obtain ⟨d0, d1, df0, df1, dl⟩ := block2 ((unhide HC).kp hk5).blk; obtain ⟨⟨m0, m1, m2, m3⟩, ⟨mf0, mf1, mf2, mf3⟩, ml⟩ := block4 hm5.blk; clear hm5 hs5 hl5 hn5 hk5 hb5)
  have hi5 : Inv os rs s' := (unhide HS5).inv (unhide HGH) (unhide HI)
  have hol : os.length = n := (unhide HG).no
  have hnr : rs.length = nr := (unhide HT).isl.len
  have hn16 := (unhide HGH).nr
  have ht5 := (unhide HT).kp (unhide HK5)
  have HSH : Hid (∀ W, Below w5.heap.size w5 W → Calls Try.prog 37 #[.pointer (some ⟨b, 0, none⟩), .slice ar nr cr] W fun e w' => e = .returned (.tuple #[]) ∧ ∃ vl2, MkAt lo w' b n cw vO (.slice ar nr cr) wb vl2 s' ∧ Kp W w' b wb vl' vl2 ∧ Below lo W w') := fun W hW => by
    have ht6 := ht5.kp (Kp.of_below hW)
    have h_ := shade_any lo W b n vO (.slice ar nr cr) wb vl' s' ((unhide HM5).below hW) ar nr cr rs ht6.isl (fun h0 k hk => (ht6.ap h0 k hk).2.2) (by have h_ := (unhide HGH).ro; rwa [hol] at h_) (by rw [unhide HL5]; show 0 + nr ≤ _; omega)
    rwa [hi5.shadeR (unhide HGH)] at h_
  have HI5 := hide hi5
  have HR5 := hide ((unhide HR).kp (unhide HK5))
  have HC5 := hide ((unhide HC).kp (unhide HK5))
  have HSS : Hid (∀ W, Below w5.heap.size w5 W → W.cell? ⟨cb, 0, none⟩ = some (.pointer (some ⟨b, 0, none⟩)) ∧ W.cell? ⟨b, 1, none⟩ = some (.slice ar nr cr)) := fun W hW => ⟨(block2 (keep_below (unhide HC5).blk hW)).1, (block4 (keep_below (unhide HM5).blk hW)).1.2.1⟩
  have HLO : Hid (lo ≤ w5.heap.size) := Nat.le_of_lt (Nat.lt_of_le_of_lt (unhide HM5).lob.1 (unhide HM5).blt)
  have HDR : Hid (Below w5.heap.size w5 w5.drew) := (Below.refl _ _).drew
  clear hi5 hol hnr hn16 ht5 c0 c1 cf0 cf1 cl
  go_region_held3 (fun W => W.cell? ⟨cb, 0, none⟩ = some (.pointer (some ⟨b, 0, none⟩)) ∧ W.cell? ⟨b, 1, none⟩ = some (.slice ar nr cr))
    (first | with_reducible exact unhide HSS _ (Below.refl _ _) | with_reducible exact unhide HSS _ (unhide HDR) | with_reducible exact unhide HS6)
    (first | (go_at_call 37; (with_reducible refine Calls.mono (unhide HSH _ (unhide HDR)) ?_); rintro e w6 ⟨rfl, vl2, hm6, hk6, hb6⟩; have HM6 := hide hm6; have HK6 := hide ((unhide HK5).trans ((Kp.of_below (unhide HDR)).trans hk6)); have HB6 := hide ((unhide HB5).trans (((unhide HDR).mono (unhide HLO)).trans hb6)); have HF6 := hide (finish_any w6 lo b n vO (.slice ar nr cr) wb vl2 s' hm6 os (unhide HG) (((unhide HR5).kp (Kp.of_below (unhide HDR))).kp hk6) (unhide HN5)); have hc6 := ((unhide HC5).kp (Kp.of_below (unhide HDR))).kp hk6; have HS6 : Hid (w6.cell? ⟨cb, 0, none⟩ = some (.pointer (some ⟨b, 0, none⟩)) ∧ w6.cell? ⟨b, 1, none⟩ = some (.slice ar nr cr)) := ⟨(block2 hc6.blk).1, (block4 hm6.blk).1.2.1⟩; obtain ⟨x0, x1, xf0, xf1, xl⟩ := block2 hc6.blk; clear hm6 hk6 hb6 hc6))
  go_wp2_with (go_at_call 26; (with_reducible refine Calls.mono (unhide HF6) ?_); rintro e w7 ⟨rfl, vl3, s3, hm7, hs7, hl7, hn7, hk7, hb7⟩; have HM7 := hide hm7; have HS7 := hide hs7; have HL7 := hide hl7; have HN7 := hide hn7; have HK7 := hide ((unhide HK6).trans hk7); have HB7 := hide ((unhide HB6).trans hb7); clear hm7 hs7 hl7 hn7 hk7 hb7)
  exact bodyPost_end (v := .tuple #[]) (by simp [results, Try.results33]) rfl ⟨rfl, vl3, s3, unhide HM7, (unhide HS7).inv (unhide HGH) (unhide HI5), unhide HL7, unhide HN7, unhide HK7, unhide HB7⟩

theorem end_any {cw : Nat} (w : World) (cb b wb lo lo2 n : Nat) (vO : Value) (ar : Option Addr) (nr cr : Nat) (vl : Value) (z : Int) (s : Mk) (os : List (List Int)) (rs : List Int) (hgh : GoodH os rs) (hi : Inv os rs s) (hc : CycAt w cb b wb vl z) (h : MkAt lo w b n cw vO (.slice ar nr cr) wb vl s) (hg : GoodR os n) (hr : Rr w b wb vl vO os) (ht : RtL lo2 w b wb vl ar nr cr rs) (hk : LnOk n s) :
    Calls Try.prog 33 #[.pointer (some ⟨cb, 0, none⟩)] w fun e w' => e = .returned (.tuple #[]) ∧ ∃ vl' s', MkAt lo w' b n cw vO (.slice ar nr cr) wb vl' s' ∧ Inv os rs s' ∧ s'.ln = [] ∧ LnOk n s' ∧ Kp w w' b wb vl vl' ∧ Below lo w w' := by
  by_cases hz : z = 1
  · subst hz
    exact end_one w cb b wb lo lo2 n vO ar nr cr vl s os rs hgh hi hc h hg hr ht hk
  · exact (end_none w cb b wb lo n vO _ vl z hz s hc h os hg hr hk).mono fun e w' ⟨h1, vl', s', h2, h3, h4, h5, h6, h7⟩ => ⟨h1, vl', s', h2, h3.inv hgh hi, h4, h5, h6, h7⟩
end Go.Proofs.Ytmkehjncnaokoaa
