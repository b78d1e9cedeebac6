/-
  sweep.cycle: its end, whatever was done; what acts leave is good.
-/
import Derived.Test.YtmkehjncnaokoaaCm
namespace Go.Proofs.Ytmkehjncnaokoaa
open Go.RowKit

set_option maxRecDepth 100000 in
set_option maxHeartbeats 4000000 in
theorem end_one_g {cw : Nat} (w : World) (cb b wb lo lo2 n : Nat) (vO : Value) (ar : Option Addr) (nr cr : Nat) (vl : Value) (s : Mk) (os : List (List Int)) (rs : List Int) (hro : ∀ o ∈ rs, -1 ≤ o ∧ o < (n : Int)) (hn16 : rs.length ≤ 16) (hc : CycAt w cb b wb vl 1) (h : MkAt lo w b n cw vO (.slice ar nr cr) wb vl s) (hg : GoodR os n) (hr : Rr w b wb vl vO os) (ht : RtL lo2 w b wb vl ar nr cr rs) (hk : LnOk n s) :
    Calls Try.prog 33 #[.pointer (some ⟨cb, 0, none⟩)] w fun e w' => e = .returned (.tuple #[]) ∧ ∃ vl' s', MkAt lo w' b n cw vO (.slice ar nr cr) wb vl' s' ∧ (∃ s1, Stp os s s1 ∧ s1.ln = [] ∧ Stp os (shadeL s1 rs) s') ∧ s'.ln = [] ∧ LnOk n s' ∧ Kp w w' b wb vl vl' ∧ Below lo w w' := by
  have HF := hide (finish_any w lo b n vO (.slice ar nr cr) wb vl s h os hg hr hk)
  have HC := hide hc; have HR := hide hr; have HT := hide ht; have HG := hide hg; have HRO := hide hro
  obtain ⟨c0, c1, cf0, cf1, cl⟩ := block2 hc.blk
  clear hc h hg hr hk ht hro
  go_enter Try.func33, Try.ntmps33
  go_upto_region 2 with (go_at_call 26; (with_reducible refine Calls.mono (unhide HF) ?_); rintro e w5 ⟨rfl, vl', s', hm5, hs5, hl5, hn5, hk5, hb5⟩; have HM5 := hide hm5; have HS5 := hide hs5; have HL5 := hide hl5; have HN5 := hide hn5; have HK5 := hide hk5; have HB5 := hide hb5; obtain ⟨d0, d1, df0, df1, dl⟩ := block2 ((unhide HC).kp hk5).blk; obtain ⟨⟨m0, m1, m2, m3⟩, ⟨mf0, mf1, mf2, mf3⟩, ml⟩ := block4 hm5.blk; clear hm5 hs5 hl5 hn5 hk5 hb5)
  have hol : os.length = n := (unhide HG).no
  have hnr : rs.length = nr := (unhide HT).isl.len
  have ht5 := (unhide HT).kp (unhide HK5)
  have HSH : Hid (∀ W, Below w5.heap.size w5 W → Calls Try.prog 37 #[.pointer (some ⟨b, 0, none⟩), .slice ar nr cr] W fun e w' => e = .returned (.tuple #[]) ∧ ∃ vl2, MkAt lo w' b n cw vO (.slice ar nr cr) wb vl2 (shadeL s' rs) ∧ Kp W w' b wb vl' vl2 ∧ Below lo W w') := fun W hW => by
    have ht6 := ht5.kp (Kp.of_below hW)
    have h_ := shade_any lo W b n vO (.slice ar nr cr) wb vl' s' ((unhide HM5).below hW) ar nr cr rs ht6.isl (fun h0 k hk => (ht6.ap h0 k hk).2.2) (unhide HRO) (by rw [unhide HL5]; show 0 + nr ≤ _; omega)
    exact h_
  have HN6 := hide ((unhide HN5).shade (unhide HRO))
  have HR5 := hide ((unhide HR).kp (unhide HK5))
  have HC5 := hide ((unhide HC).kp (unhide HK5))
  have HSS : Hid (∀ W, Below w5.heap.size w5 W → W.cell? ⟨cb, 0, none⟩ = some (.pointer (some ⟨b, 0, none⟩)) ∧ W.cell? ⟨b, 1, none⟩ = some (.slice ar nr cr)) := fun W hW => ⟨(block2 (keep_below (unhide HC5).blk hW)).1, (block4 (keep_below (unhide HM5).blk hW)).1.2.1⟩
  have HLO : Hid (lo ≤ w5.heap.size) := Nat.le_of_lt (Nat.lt_of_le_of_lt (unhide HM5).lob.1 (unhide HM5).blt)
  have HDR : Hid (Below w5.heap.size w5 w5.drew) := (Below.refl _ _).drew
  clear hol hnr hn16 ht5 c0 c1 cf0 cf1 cl
  go_region_held3 (fun W => W.cell? ⟨cb, 0, none⟩ = some (.pointer (some ⟨b, 0, none⟩)) ∧ W.cell? ⟨b, 1, none⟩ = some (.slice ar nr cr))
    (first | with_reducible exact unhide HSS _ (Below.refl _ _) | with_reducible exact unhide HSS _ (unhide HDR) | with_reducible exact unhide HS6)
    (first | (go_at_call 37; (with_reducible refine Calls.mono (unhide HSH _ (unhide HDR)) ?_); rintro e w6 ⟨rfl, vl2, hm6, hk6, hb6⟩; have HM6 := hide hm6; have HK6 := hide ((unhide HK5).trans ((Kp.of_below (unhide HDR)).trans hk6)); have HB6 := hide ((unhide HB5).trans (((unhide HDR).mono (unhide HLO)).trans hb6)); have HF6 := hide (finish_any w6 lo b n vO (.slice ar nr cr) wb vl2 (shadeL s' rs) hm6 os (unhide HG) (((unhide HR5).kp (Kp.of_below (unhide HDR))).kp hk6) (unhide HN6)); have hc6 := ((unhide HC5).kp (Kp.of_below (unhide HDR))).kp hk6; have HS6 : Hid (w6.cell? ⟨cb, 0, none⟩ = some (.pointer (some ⟨b, 0, none⟩)) ∧ w6.cell? ⟨b, 1, none⟩ = some (.slice ar nr cr)) := ⟨(block2 hc6.blk).1, (block4 hm6.blk).1.2.1⟩; obtain ⟨x0, x1, xf0, xf1, xl⟩ := block2 hc6.blk; clear hm6 hk6 hb6 hc6))
  go_wp2_with (go_at_call 26; (with_reducible refine Calls.mono (unhide HF6) ?_); rintro e w7 ⟨rfl, vl3, s3, hm7, hs7, hl7, hn7, hk7, hb7⟩; have HM7 := hide hm7; have HS7 := hide hs7; have HL7 := hide hl7; have HN7 := hide hn7; have HK7 := hide ((unhide HK6).trans hk7); have HB7 := hide ((unhide HB6).trans hb7); clear hm7 hs7 hl7 hn7 hk7 hb7)
  exact bodyPost_end (v := .tuple #[]) (by simp [results, Try.results33]) rfl ⟨rfl, vl3, s3, unhide HM7, ⟨s', unhide HS5, unhide HL5, unhide HS7⟩, unhide HL7, unhide HN7, unhide HK7, unhide HB7⟩


/-- What a cycle's end makes of a marker. -/
def EndR (z : Int) (os : List (List Int)) (rs : List Int) (s s' : Mk) : Prop := s'.ln = [] ∧ ((z = 1 ∧ ∃ s1, Stp os s s1 ∧ s1.ln = [] ∧ Stp os (shadeL s1 rs) s') ∨ (z ≠ 1 ∧ Stp os s s'))
theorem end_gen {lo : Nat} {w : World} {lab : Nat → Nat} {cb : Nat} {z : Int} {b wb cw n bo co : Nat} {ar : Option Addr} {nr cr : Nat} {vl : Value} {g : Gm} (h : CyL lo w lab cb z b wb cw n bo co ar nr cr vl g) (hg : GoodG g) :
    Calls Try.prog 33 #[.pointer (some ⟨cb, 0, none⟩)] w fun e w' => e = .returned (.tuple #[]) ∧ ∃ s' lab' vl', EndR z g.os g.rs g.mm s' ∧ CyL lo w' lab' cb z b wb cw n bo co ar nr cr vl' ⟨g.os, g.rs, s'⟩ ∧ Below lo w w' := by
  have hk := hg.ln
  rw [h.hn] at hk
  by_cases hz : z = 1
  · subst hz
    exact (end_one_g w cb b wb lo lo n _ ar nr cr vl g.mm g.os g.rs (by have h_ := hg.gh.ro; rwa [h.hn] at h_) hg.gh.nr h.cycAt h.mka (hg.rows h.hn) h.rrl.rr h.rtl hk).mono fun e w' ⟨h1, vl', s', h2, h3, h4, h5, h6, h7⟩ => ⟨h1, s', _, vl', ⟨h4, Or.inl ⟨rfl, h3⟩⟩, h.kp h6 h2, h7⟩
  · exact (end_none w cb b wb lo n _ _ vl z hz g.mm h.cycAt h.mka g.os (hg.rows h.hn) h.rrl.rr hk).mono fun e w' ⟨h1, vl', s', h2, h3, h4, h5, h6, h7⟩ => ⟨h1, s', _, vl', ⟨h4, Or.inr ⟨hz, h3⟩⟩, h.kp h6 h2, h7⟩
theorem LnOk.shB {n : Nat} {m : Mk} (h : LnOk n m) (z : Int) {old new : Int} (ho : -1 ≤ old ∧ old < (n : Int)) (hv : -1 ≤ new ∧ new < (n : Int)) : LnOk n (shB z m old new) := by
  unfold Go.Proofs.Ytmkehjncnaokoaa.shB
  split
  · exact h.shade1 ho
  · split
    · exact (h.shade1 ho).shade1 hv
    · split
      · exact h.shade1 hv
      · exact h
theorem LnOk.markM {os : List (List Int)} {n : Nat} {s : Mk} (h : LnOk n s) (hg : GoodR os n) : LnOk n (markM os s) := by
  obtain ⟨wh, ln⟩ := s
  cases ln with
  | nil => exact h
  | cons f r =>
    have hfn : f < n := h.lt f (List.mem_cons_self ..)
    have hcn := h.cnt
    have hln : (f :: r).length = r.length + 1 := rfl
    simp only [hln] at hcn
    have hk1 : LnOk n ⟨wh, r⟩ := ⟨fun x hx => h.lt x (List.mem_cons_of_mem _ hx), by have h_ : cntW n ⟨wh, f :: r⟩ = cntW n ⟨wh, r⟩ := rfl; show cntW n ⟨wh, r⟩ + r.length ≤ 2000; omega⟩
    exact hk1.shade (hg.so f hfn)
theorem LnOk.born {n : Nat} {s : Mk} (h : LnOk n s) : LnOk (n + 1) ⟨fun y => if y = n then false else s.wh y, s.ln⟩ := by
  refine ⟨fun x hx => Nat.lt_succ_of_lt (h.lt x hx), ?_⟩
  have e : cntW (n + 1) ⟨fun y => if y = n then false else s.wh y, s.ln⟩ = cntW n s := by
    unfold cntW
    rw [List.range_succ, List.filter_append, List.length_append]
    have e1 : (List.range n).filter (fun y => if y = n then false else s.wh y) = (List.range n).filter s.wh := by
      apply List.filter_congr
      intro x hx
      have := List.mem_range.1 hx
      rw [if_neg (by omega)]
    rw [e1]
    simp
  rw [e]
  exact h.cnt
theorem mem_rowset {os : List (List Int)} {f t : Nat} {v : Int} {i : Nat} {o : Int} (h : o ∈ (os.set f ((os.getD f []).set t v)).getD i []) : o = v ∨ o ∈ os.getD i [] := by
  rw [getD_set] at h
  by_cases e : f = i ∧ f < os.length
  · rw [if_pos e] at h
    obtain ⟨rfl, _⟩ := e
    rcases List.mem_or_eq_of_mem_set h with q | q
    · exact Or.inr q
    · exact Or.inl q
  · rw [if_neg e] at h
    exact Or.inr h
theorem GoodG.src {g : Gm} (hg : GoodG g) {a : Int} (ha : hasSrcB g.rs.length a = true) : -1 ≤ srcG g a ∧ srcG g a < (g.os.length : Int) := srcG_ok hg rfl rfl ha
theorem GoodG.slot {g : Gm} (hg : GoodG g) {f t : Nat} (hf : f < g.os.length) (ht : t < (g.os.getD f []).length) : -1 ≤ (g.os.getD f []).getD t 0 ∧ (g.os.getD f []).getD t 0 < (g.os.length : Int) := hg.gh.so f hf _ (getD_mem ht)
theorem GoodG.setR {g : Gm} (hg : GoodG g) (ta : Nat) {v : Int} (hv : -1 ≤ v ∧ v < (g.os.length : Int)) : GoodG ⟨g.os, g.rs.set ta v, g.mm⟩ := by
  refine ⟨⟨hg.gh.no, by show (g.rs.set ta v).length ≤ 16; rw [List.length_set]; exact hg.gh.nr, fun o ho => ?_, hg.gh.ns, hg.gh.so⟩, hg.ln⟩
  rcases List.mem_or_eq_of_mem_set ho with q | q
  · exact hg.gh.ro o q
  · rw [q]; exact hv
theorem good_do {g : Gm} (z : Int) (hg : GoodG g) {x : Ac} (hx : wrongG g x = 0) : GoodG (doG z g x) := by
  rcases wrong_ops hx with ⟨h1, h2, h3⟩ | ⟨h1, h2, h3⟩ | ⟨h1, h2, h3, h4⟩ | ⟨h1, h2, h3, h4, h5, h6⟩ | h1
  · obtain ⟨op, a, b', c⟩ := x
    dsimp only at h1 h2 h3
    obtain ⟨i, f, t, rfl, hi, hq, hf, rfl, ht⟩ := hasSlB_yes hg h2
    subst h1
    have hv := hg.src h3
    have hold := hg.slot hf ht
    unfold doG
    dsimp only
    rw [if_pos rfl, rowG_at hq, hq, Int.toNat_natCast, Int.toNat_natCast]
    have hlen : (g.os.set f ((g.os.getD f []).set t (srcG g c))).length = g.os.length := List.length_set
    refine ⟨⟨by show (g.os.set f _).length ≤ 500; rw [hlen]; exact hg.gh.no, hg.gh.nr, fun o ho => by rw [hlen]; exact hg.gh.ro o ho, fun j hj => ?_, fun j hj o ho => ?_⟩, ?_⟩
    · rw [hlen] at hj
      show ((g.os.set f _).getD j []).length ≤ 20
      rw [getD_set]
      by_cases e : f = j ∧ f < g.os.length
      · rw [if_pos e, List.length_set]; exact hg.gh.ns f e.2
      · rw [if_neg e]; exact hg.gh.ns j hj
    · rw [hlen] at hj
      rw [hlen]
      rcases mem_rowset ho with q | q
      · rw [q]; exact hv
      · exact hg.gh.so j hj o q
    · show LnOk (g.os.set f _).length _
      rw [hlen]
      exact hg.ln.shB z hold hv
  · obtain ⟨op, a, b', c⟩ := x
    dsimp only at h1 h2 h3
    obtain ⟨ta, rfl, hta⟩ := hasRB_yes h2
    obtain ⟨i, f, t, rfl, hi, hq, hf, rfl, ht⟩ := hasSlB_yes hg h3
    subst h1
    unfold doG
    dsimp only
    rw [if_neg (by decide), if_pos rfl, rowG_at hq, Int.toNat_natCast, Int.toNat_natCast]
    exact hg.setR ta (hg.slot hf ht)
  · obtain ⟨op, a, b', c⟩ := x
    dsimp only at h1 h2 h3 h4
    obtain ⟨ta, rfl, hta⟩ := hasRB_yes h2
    subst h1
    unfold doG
    dsimp only
    rw [if_neg (by decide), if_neg (by decide), if_pos rfl, Int.toNat_natCast]
    exact hg.setR ta (hg.src h3)
  · obtain ⟨op, a, b', c⟩ := x
    dsimp only at h1 h2 h3 h4 h5
    obtain ⟨ta, rfl, hta⟩ := hasRB_yes h2
    obtain ⟨k, rfl⟩ : ∃ k : Nat, b' = (k : Int) := ⟨b'.toNat, by omega⟩
    subst h1
    unfold doG
    dsimp only
    rw [if_neg (by decide), if_neg (by decide), if_neg (by decide), if_pos rfl, Int.toNat_natCast, Int.toNat_natCast]
    have hlen : (g.os ++ [List.replicate k (-1)]).length = g.os.length + 1 := by rw [List.length_append]; rfl
    have hno := hg.gh.no
    refine ⟨⟨by show (g.os ++ [_]).length ≤ 500; rw [hlen]; omega, by show (g.rs.set ta _).length ≤ 16; rw [List.length_set]; exact hg.gh.nr, fun o ho => ?_, fun j hj => ?_, fun j hj o ho => ?_⟩, ?_⟩
    · show -1 ≤ o ∧ o < (((g.os ++ [List.replicate k (-1)]).length : Nat) : Int)
      rw [hlen]
      rcases List.mem_or_eq_of_mem_set ho with q | q
      · have := hg.gh.ro o q; omega
      · omega
    · show ((g.os ++ [List.replicate k (-1)]).getD j []).length ≤ 20
      have hj2 : j < g.os.length + 1 := by rw [← hlen]; exact hj
      rw [getD_app]
      by_cases e : j = g.os.length
      · rw [if_pos e, List.length_replicate]; omega
      · rw [if_neg e]; exact hg.gh.ns j (by omega)
    · show -1 ≤ o ∧ o < (((g.os ++ [List.replicate k (-1)]).length : Nat) : Int)
      have hj2 : j < g.os.length + 1 := by rw [← hlen]; exact hj
      have ho2 : o ∈ (g.os ++ [List.replicate k (-1)]).getD j [] := ho
      rw [hlen]
      rw [getD_app] at ho2
      by_cases e : j = g.os.length
      · rw [if_pos e] at ho2
        have := (List.mem_replicate.1 ho2).2
        omega
      · rw [if_neg e] at ho2
        have := hg.gh.so j (by omega) o ho2
        omega
    · show LnOk (g.os ++ [List.replicate k (-1)]).length _
      rw [hlen]
      exact hg.ln.born
  · subst h1
    exact ⟨hg.gh, hg.ln.markM hg.gh.rows⟩
/-- What the first so many acts leave. -/
def stG (z : Int) (g : Gm) (acts : List Ac) (i : Nat) : Gm := (acts.take i).foldl (doG z) g
def PreOk (z : Int) (g : Gm) (acts : List Ac) (i : Nat) : Prop := ∀ j, j < i → wrongG (stG z g acts j) (acts.getD j ac0) = 0
theorem stG_succ {z : Int} {g : Gm} {acts : List Ac} {i : Nat} (h : i < acts.length) : stG z g acts (i + 1) = doG z (stG z g acts i) (acts.getD i ac0) := by
  have e : acts.take (i + 1) = acts.take i ++ [acts.getD i ac0] := by
    rw [List.take_add_one, List.getElem?_eq_getElem h]
    simp [List.getElem?_eq_getElem h]
  unfold stG
  rw [e, List.foldl_append]
  rfl
theorem good_st {z : Int} {g : Gm} {acts : List Ac} (hg : GoodG g) : ∀ i, i ≤ acts.length → PreOk z g acts i → GoodG (stG z g acts i)
  | 0, _, _ => hg
  | i + 1, hi, hp => by
    rw [stG_succ hi]
    exact good_do z (good_st hg i (Nat.le_of_succ_le hi) (fun j hj => hp j (Nat.lt_succ_of_lt hj))) (hp i (Nat.lt_succ_self i))
end Go.Proofs.Ytmkehjncnaokoaa
