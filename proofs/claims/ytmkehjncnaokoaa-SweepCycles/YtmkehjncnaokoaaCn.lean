/-
  sweep.newCycle: how the cycle lies.
  sweep.cycle: its end, whatever was done; what acts leave is good.
-/
import Derived.Test.YtmkehjncnaokoaaCl
namespace Go.Proofs.Ytmkehjncnaokoaa
open Go.RowKit

/-- Rows' marks. -/
def RowLb (w : World) (G j : Nat) (lab : Nat → Nat) : Prop := ∀ i, i < j → ∀ a n k, w.cell? ⟨G, i, none⟩ = some (.slice a n k) → ∀ q, (Value.slice a n k).ownBlock = some q → lab q = 7 + i ∧ q < w.heap.size
theorem rowLb_put {wr w5 : World} {b no i nr c1 m c5 B : Nat} {lab : Nat → Nat} {a1 a5 : Option Addr} {rs xs : List Int} {f : Nat → List Int} (h : lab b = 6 ∧ (∀ q, (Value.slice a1 nr c1).ownBlock = some q → lab q = 5) ∧ RowLb wr b i lab) (hg : RowsG wr b no i f) (hor : Own KI B wr (.slice a1 nr c1) rs) (hb : Below wr.heap.size wr w5) (hi : i < no) (hg5 : RowsG w5 b no i f) (ho : Own KI wr.heap.size w5 (.slice a5 m c5) xs) : (fun q => if q < wr.heap.size then lab q else 7 + i) b = 6 ∧ (∀ q, (Value.slice a1 nr c1).ownBlock = some q → (fun q => if q < wr.heap.size then lab q else 7 + i) q = 5) ∧ RowLb (w5.setCell ⟨b, i, none⟩ (.slice a5 m c5)) b (i + 1) (fun q => if q < wr.heap.size then lab q else 7 + i) := by
  refine ⟨(if_pos hg.lt).trans h.1, fun q hq => (if_pos (hor.lt q hq).2).trans (h.2.1 q hq), fun i' hi' a n k hc q hq => ?_⟩
  rw [size_set]
  by_cases e : i' = i
  · subst e
    have h1 := cell_same hg5.there hi (.slice a5 m c5)
    rw [Nat.zero_add] at h1
    rw [h1] at hc
    have e2 := Option.some.inj hc
    rw [← e2] at hq
    have := ho.lt q hq
    exact ⟨if_neg (by omega), this.2⟩
  · obtain ⟨a0, k0, h1, h2⟩ := hg.row i' (by omega)
    have h3 := cell_other (b := b) (o := i) (cell_of h1 (hb.block b hg.lt)) (Or.inr e) (.slice a5 m c5)
    rw [h3] at hc
    have e2 := Option.some.inj hc
    rw [← e2] at hq
    have := h.2.2 i' (by omega) _ _ _ h1 q hq
    exact ⟨(if_pos this.2).trans this.1, Nat.lt_of_lt_of_le this.2 hb.size⟩
theorem new_cy {wr W : World} {b no nr c1 lo B mb wb cb : Nat} {z : Int} {lab : Nat → Nat} {a1 : Option Addr} {vl : Value} {rs : List Int} {os : List (List Int)} {s : Mk} (hg : RowsG wr b no no (fun i => os.getD i [])) (hor : Own KI B wr (.slice a1 nr c1) rs) (hl : lab b = 6 ∧ (∀ q, (Value.slice a1 nr c1).ownBlock = some q → lab q = 5) ∧ RowLb wr b no lab) (hb : Below wr.heap.size wr W) (hn : os.length = no) (hr : rs.length = nr) (hm : MkAt wr.heap.size W mb no no (.slice (some ⟨b, 0, none⟩) no no) (.slice a1 nr c1) wb vl s) (hc : W.heap[cb]? = some (.cells #[.pointer (some ⟨mb, 0, none⟩), .int .i64 z] 60 (0, 0))) (hcb : wr.heap.size ≤ cb) (hmb : mb < cb) (hwb : wb < cb) (hvl : ∀ k, vl.ownBlock = some k → wr.heap.size ≤ k ∧ k < cb) (hlo : lo ≤ wr.heap.size) (hlb : lo ≤ b) (hlc : lo ≤ cb) (hB : lo ≤ B) : CyL lo W (fun k => if k < wr.heap.size then lab k else if k = cb then 1 else if k = mb then 2 else if k = wb then 3 else 4) cb z mb wb no no b no a1 nr c1 vl ⟨os, rs, s⟩ := by
  have hlob := hm.lob
  have hne := hm.ne
  have hgl := hg.lt
  refine ⟨hn, hr, hc, hm.low hlo, there_keep hg.there (hb.block b hg.lt), Nat.le_refl _, Nat.lt_of_lt_of_le hg.lt hb.size, fun f hf => ?_, ((hor.o.low hB).keep hb.size (fun k q => hb.block k (hor.lt k q).2)), fun k q => (if_pos (hor.lt k q).2).trans (hl.2.1 k q), ⟨?_, ?_, ?_, (if_pos hg.lt).trans hl.1⟩, fun k q => ?_, hlc, hlb⟩
  · obtain ⟨a, c, p1, p2⟩ := hg.row f hf
    exact ⟨a, c, cell_of p1 (hb.block b hg.lt), ((p2.o.low (by omega)).keep hb.size (fun k q => hb.block k (p2.lt k q).2)), fun k q => (if_pos (p2.lt k q).2).trans (hl.2.2 f hf _ _ _ p1 k q).1⟩
  · rw [if_neg (by omega), if_pos rfl]
  · rw [if_neg (by omega), if_neg (by omega), if_pos rfl]
  · rw [if_neg (by omega), if_neg (by omega), if_neg hne, if_pos rfl]
  · have h1 := hvl k q
    have h2 := hm.vlb k q
    rw [if_neg (by omega), if_neg (by omega), if_neg h2.1, if_neg h2.2]

set_option maxRecDepth 100000 in
set_option maxHeartbeats 4000000 in
theorem newCycle_cy (w : World) (ao : Option Addr) (no co : Nat) (ar : Option Addr) (nr cr : Nat) (z : Int) (us : List Sl) (os : List (List Int)) (rs : List Int) (hO : IsLL w (.slice ao no co) us os) (hR : IsL KI w (.slice ar nr cr) rs) (hg : GoodH os rs) :
    Calls Try.prog 30 #[.agg #[.slice ao no co, .slice ar nr cr], .int .i64 z] w fun e w' => ∃ cb mb wb vl b a1 c1 lab, e = .returned (.pointer (some ⟨cb, 0, none⟩)) ∧ CyL w.heap.size w' lab cb z mb wb no no b no a1 nr c1 vl ⟨os, rs, shadeL ⟨fun _ => true, []⟩ rs⟩ ∧ Below w.heap.size w w' := by
  have hol : os.length = no := by rw [← hO.len]; exact hO.row.len
  have hno : no ≤ 500 := by rw [← hol]; exact hg.no
  have hnr : nr ≤ 16 := by rw [← hR.len]; exact hg.nr
  obtain ⟨A, hA, hmk⟩ := make_rows no (by omega)
  have hsz : A.size = no := by rw [← Array.length_toList, hA, List.length_replicate]
  have HX1s : Hid (w.heap.size ≤ (w.alloc (.cells #[.slice ao no co, .slice ar nr cr] 25)).heap.size) := ((Below.refl w.heap.size w).alloc (Nat.le_refl _) _).size
  have HX1 := hide ((Below.refl w.heap.size w).alloc (Nat.le_refl _) (.cells #[.slice ao no co, .slice ar nr cr] 25))
  have HH1 := hide (new_block w (.cells #[.slice ao no co, .slice ar nr cr] 25))
  have HO := hide hO; have HR := hide hR; have HMK := hide hmk; have HOL := hide hol; have HGD := hide hg
  obtain ⟨W1, e1⟩ : ∃ X, w.alloc (.cells #[.slice ao no co, .slice ar nr cr] 25) = X := ⟨_, rfl⟩
  rw [e1] at HX1 HH1 HX1s
  have HE1 := hide e1
  clear e1 hO hR hmk hA hol hg
  go_enter Try.func30, Try.ntmps30
  go_upto_region 1 with fail
  rw [unhide HE1]
  clear HE1
  refine newCycle_1 W1 w.heap.size ao no co ar nr cr z rs (unhide HH1) ((unhide HR).below (unhide HX1)) hnr A (unhide HMK) _ _ _ (by kernel_rfl) ?_
  intro s8 s9 s10 s11 s12 s13 s14 s15 T b a1 c1 W2 hb2 hT hb hne hTB hBB hOR
  have HH2 := hide (keep_below (unhide HH1) hb2)
  have HX2 := hide (Below.next (unhide HX1) hb2 (Nat.le_refl _))
  have HT := hide hTB
  have HRB := hide (hOR.ne hBB (by decide))
  have HOR := hide hOR
  have HG0 : Hid (RowsG W2 b no 0 (fun i => os.getD i [])) := ⟨there_block hBB (by omega), size_of hBB, fun i hi => absurd hi (Nat.not_lt_zero _)⟩
  obtain ⟨lb0, hlb0⟩ : ∃ L : Nat → Nat, L b = 6 ∧ (∀ q, (Value.slice a1 nr c1).ownBlock = some q → L q = 5) ∧ RowLb W2 b 0 L := ⟨fun k => if (Value.slice a1 nr c1).ownBlock = some k then 5 else 6, if_neg (fun q => unhide HRB b q rfl), fun q hq => if_pos hq, fun i' hi' => absurd hi' (Nat.not_lt_zero _)⟩
  have HLB0 := hide hlb0
  clear hlb0
  have hbw : w.heap.size ≤ b := Nat.le_trans (unhide HX1).size hb
  have hHb : w.heap.size ≠ b := by have := size_of (unhide HH1); omega
  clear hb2 hTB hBB hOR HX1 HH1 HMK HR hsz
  obtain ⟨b0, b1, bf0, bf1, bl⟩ := block2 (unhide HH2)
  go_wp2_with fail
  clear b0 b1 bf0 bf1 bl
  go_loopw [19] (fun s19 wr => ∃ (i : Nat) (lab : Nat → Nat), i ≤ no ∧ s19 = .int .i64 (i : Int) ∧ Hid (lab b = 6 ∧ (∀ q, (Value.slice a1 nr c1).ownBlock = some q → lab q = 5) ∧ RowLb wr b i lab) ∧ Hid (RowsG wr b no i (fun i => os.getD i [])) ∧ Hid (wr.heap[w.heap.size]? = some (.cells #[.slice ao no co, .slice ar nr cr] 25 (0, 0))) ∧ Hid (wr.heap[T]? = some (.cells #[.slice (some ⟨b, 0, none⟩) no no, .slice a1 nr c1] 25 (0, 0))) ∧ Hid (Own KI W1.heap.size wr (.slice a1 nr c1) rs) ∧ Hid (Below w.heap.size w wr)) (fun s19 _ => no - (intOf s19).toNat)
  case atStart => exact ⟨0, lb0, Nat.zero_le _, rfl, HLB0, HG0, HH2, HT, HOR, HX2⟩
  case round =>
    obtain ⟨i, lab, hi, rfl, HLBi, HGi, HHi, HTi, HORi, HXi⟩ := hrel
    clear HG0 HH2 HT HOR HX2 HLB0
    by_cases hin : i < no
    · have i6 : (0 : Int) ≤ (i : Int) := by omega
      have i7 : (i : Int) < (no : Int) := by omega
      have hw1 : IntKind.i64.wrap ((i : Int) + 1) = (i : Int) + 1 := wrapi (by omega) (by omega)
      have hko : i < os.length := by rw [unhide HOL]; exact hin
      obtain ⟨ab, cb, hub, hrow⟩ := (unhide HO).at hko
      obtain ⟨ob, oo, rfl, hob, hli⟩ := (unhide HO).row.opens kl (unhide HO).row.len (by omega)
      have k0 := (hli.below (unhide HXi) hob).sls (j := i) (by rw [(unhide HO).row.len]; exact hin)
      rw [hub] at k0
      have hml : (os.getD i []).length ≤ 20 := (unhide HGD).ns i hko
      obtain ⟨m, em⟩ : ∃ X, (os.getD i []).length = X := ⟨_, rfl⟩
      have HCL : Hid (∀ W, Below w.heap.size w W → Calls Try.prog 39 #[.slice ab m cb] W fun e w' => ∃ a' c', e = .returned (.slice a' m c') ∧ Own KI W.heap.size w' (.slice a' m c') (os.getD i []) ∧ Below W.heap.size W w') := fun W hW => by
        have h_ := clone_any W ab (os.getD i []).length cb (os.getD i []) (hrow.below hW) (by omega)
        rwa [em] at h_
      rw [em] at k0
      change wr.cell? ⟨ob, oo + i, none⟩ = some (.slice ab m cb) at k0
      have HEM := hide em
      clear hub hrow hli em hko hml hob
      have hTl := size_of (unhide HTi)
      have HSS : Hid (∀ W, Below wr.heap.size wr W → W.cell? ⟨T, 0, none⟩ = some (.slice (some ⟨b, 0, none⟩) no no) ∧ Below w.heap.size w W) := fun W hW => ⟨(block2 (keep_below (unhide HTi) hW)).1, Below.next (unhide HXi) hW (Nat.le_refl _)⟩
      have HS3 : Hid (∀ (W : World) (v : Value), (W.cell? ⟨T, 0, none⟩ = some (.slice (some ⟨b, 0, none⟩) no no) ∧ Below w.heap.size w W) → ((W.setCell ⟨b, i, none⟩ v).cell? ⟨T, 0, none⟩ = some (.slice (some ⟨b, 0, none⟩) no no) ∧ Below w.heap.size w (W.setCell ⟨b, i, none⟩ v))) := fun W v h => ⟨cell_other h.1 (Or.inl hne) v, h.2.setCell hbw v⟩
      obtain ⟨b0, b1, bf0, bf1, bl⟩ := block2 (unhide HHi)
      go_upto_region 5 with fail
      go_region_held3 (fun W => W.cell? ⟨T, 0, none⟩ = some (.slice (some ⟨b, 0, none⟩) no no) ∧ Below w.heap.size w W)
        (first | with_reducible exact unhide HSS _ (Below.refl _ _) | with_reducible exact unhide HSS _ (Below.refl _ _).drew | with_reducible exact unhide HSS _ (unhide HY7) | with_reducible exact unhide HSS _ (unhide HY7).drew | with_reducible exact unhide HS3 _ _ (unhide HSS _ (unhide HY7)))
        (first | (go_at_call 39; (with_reducible refine Calls.mono (unhide HCL _ (by go_split_ands; assumption)) ?_); rintro e w5 ⟨a5, c5, rfl, ho5, hb5⟩; have HY7 : Hid (Below wr.heap.size wr w5) := Below.next (Below.refl _ _).drew hb5 (Nat.le_refl _); have HO5 := hide ho5; have hG5 := (unhide HGi).below (unhide HY7); have HG5 := hide hG5; obtain ⟨x5, q5, f5⟩ := there_at hG5.there hin; clear ho5 hb5 hG5))
      have HG6 : Hid (RowsG (w5.setCell ⟨b, i, none⟩ (.slice a5 m c5)) b no (i + 1) (fun i => os.getD i [])) := by
        exact (unhide HG5).putm hin (unhide HEM) ((unhide HO5).base (unhide HGi).lt)
      have HH6 := hide (keep_set (o := i) (v := .slice a5 m c5) (keep_below (unhide HHi) (unhide HY7)) hHb)
      have HT6 := hide (keep_set (o := i) (v := .slice a5 m c5) (keep_below (unhide HTi) (unhide HY7)) hne)
      have HOR6 : Hid (Own KI W1.heap.size (w5.setCell ⟨b, i, none⟩ (.slice a5 m c5)) (.slice a1 nr c1) rs) := ((unhide HORi).below (unhide HY7)).keep fun k hk => Below.heap_setCell _ _ _ _ (by have h_ := unhide HRB k hk; simpa using h_)
      have HX6 : Hid (Below w.heap.size w (w5.setCell ⟨b, i, none⟩ (.slice a5 m c5))) := (Below.next (unhide HXi) (unhide HY7) (Nat.le_refl _)).setCell hbw _
      obtain ⟨lb6, hlb6⟩ : ∃ L : Nat → Nat, L b = 6 ∧ (∀ q, (Value.slice a1 nr c1).ownBlock = some q → L q = 5) ∧ RowLb (w5.setCell ⟨b, i, none⟩ (.slice a5 m c5)) b (i + 1) L := ⟨fun q => if q < wr.heap.size then lab q else 7 + i, rowLb_put (unhide HLBi) (unhide HGi) (unhide HORi) (unhide HY7) hin (unhide HG5) (show Own KI wr.heap.size w5 (.slice a5 m c5) _ from unhide HO5)⟩
      have HLB6 := hide hlb6
      clear hlb6
      obtain ⟨W6, e6⟩ : ∃ X, w5.setCell ⟨b, i, none⟩ (.slice a5 m c5) = X := ⟨_, rfl⟩
      rw [e6] at HG6 HH6 HT6 HOR6 HX6 HLB6
      rw [e6]
      clear e6 HG5 HO5 HSS HS3 HCL b0 b1 bf0 bf1 bl
      go_wp2_with fail
      go_roundw
      case rel => exact ⟨i + 1, lb6, by omega, by go_num, HLB6, HG6, HH6, HT6, HOR6, HX6⟩
      case measure => simp [intOf]; omega
    · obtain rfl : i = no := by omega
      have i7 : ¬ (i : Int) < (i : Int) := by omega
      obtain ⟨us', hLL⟩ := (unhide HGi).isll (unhide HOL)
      have HLL := hide hLL
      have HNM := hide (newMarker_any wr (some ⟨b, 0, none⟩) i i a1 nr c1 rs (unhide HORi).isl hno hnr (by have h_ := (unhide HGD).ro; rwa [unhide HOL] at h_))
      obtain ⟨t0, t1, tf0, tf1, tl⟩ := block2 (unhide HTi)
      clear hLL
      go_wp2_with (go_at_call 25; (with_reducible refine Calls.mono (unhide HNM) ?_); rintro e w5 ⟨mb, rfl, wb, vl, hm5, hb5⟩; have HM5 := hide hm5; have HB5 := hide hb5; clear hm5 hb5)
      have hm5 := unhide HM5
      have hmb := hm5.blt
      have hx6 : Below wr.heap.size wr (w5.alloc (.cells #[.pointer (some ⟨mb, 0, none⟩), .int .i64 z] 60)) := (unhide HB5).alloc (unhide HB5).size _
      have hg_ := unhide HGi
      have hor := unhide HORi
      have hlb := unhide HLBi
      have hlob := hm5.lob
      have hwl := hm5.wlt
      have hb5 := (unhide HB5).size
      have hnew := new_cy (z := z) hg_ hor hlb hx6 (unhide HOL) (hor.isl.len) (hm5.below ((Below.refl _ _).alloc (Nat.le_refl _) _)) (new_block w5 (.cells #[.pointer (some ⟨mb, 0, none⟩), .int .i64 z] 60)) (by omega) hmb hwl (fun k hk => (hm5.lin.lt k hk)) (unhide HXi).size hbw (Nat.le_trans (unhide HXi).size hb5) (unhide HX1s)
      exact bodyPost_ret (v := .pointer (some ⟨w5.heap.size, 0, none⟩)) (by simp [results, Try.results30]) rfl ⟨w5.heap.size, mb, wb, vl, b, a1, c1, _, rfl, hnew, Below.next (unhide HXi) hx6 (Nat.le_refl _)⟩


set_option maxRecDepth 100000 in
set_option maxHeartbeats 4000000 in
theorem end_one_g {cw : Nat} (w : World) (cb b wb lo lo2 n : Nat) (vO : Value) (ar : Option Addr) (nr cr : Nat) (vl : Value) (s : Mk) (os : List (List Int)) (rs : List Int) (hro : ∀ o ∈ rs, -1 ≤ o ∧ o < (n : Int)) (hn16 : rs.length ≤ 16) (hc : CycAt w cb b wb vl 1) (h : MkAt lo w b n cw vO (.slice ar nr cr) wb vl s) (hg : GoodR os n) (hr : Rr w b wb vl vO os) (ht : RtL lo2 w b wb vl ar nr cr rs) (hk : LnOk n s) :
    Calls Try.prog 33 #[.pointer (some ⟨cb, 0, none⟩)] w fun e w' => e = .returned (.tuple #[]) ∧ ∃ vl' s', MkAt lo w' b n cw vO (.slice ar nr cr) wb vl' s' ∧ (∃ s1, Stp os s s1 ∧ s1.ln = [] ∧ Stp os (shadeL s1 rs) s') ∧ s'.ln = [] ∧ LnOk n s' ∧ Kp w w' b wb vl vl' ∧ Below lo w w' := by
  have HF := hide (finish_any w lo b n vO (.slice ar nr cr) wb vl s h os hg hr hk)
  have HC := hide hc; have HR := hide hr; have HT := hide ht; have HG := hide hg; have HRO := hide hro
  obtain ⟨c0, c1, cf0, cf1, cl⟩ := block2 hc.blk
  clear hc h hg hr hk ht hro
  go_enter Try.func33, Try.ntmps33
  go_upto_region 2 with (go_at_call 26; (with_reducible refine Calls.mono (unhide HF) ?_); rintro e w5 ⟨rfl, vl', s', hm5, hs5, hl5, hn5, hk5, hb5⟩; have HM5 := hide hm5; have HS5 := hide hs5; have HL5 := hide hl5; have HN5 := hide hn5; have HK5 := hide hk5; have HB5 := hide hb5; obtain ⟨d0, d1, df0, df1, dl⟩ := block2 ((unhide HC).kp hk5).blk; obtain ⟨⟨m0, m1, m2, m3⟩, ⟨mf0, mf1, mf2, mf3⟩, ml⟩ := block4 hm5.blk; clear hm5 hs5 hl5 hn5 hk5 hb5)
  have hol : os.length = n := (unhide HG).no
  have hnr : rs.length = nr := (unhide HT).isl.len
  have ht5 := (unhide HT).kp (unhide HK5)
  have HSH : Hid (∀ W, Below w5.heap.size w5 W → Calls Try.prog 37 #[.pointer (some ⟨b, 0, none⟩), .slice ar nr cr] W fun e w' => e = .returned (.tuple #[]) ∧ ∃ vl2, MkAt lo w' b n cw vO (.slice ar nr cr) wb vl2 (shadeL s' rs) ∧ Kp W w' b wb vl' vl2 ∧ Below lo W w') := fun W hW => by
    have ht6 := ht5.kp (Kp.of_below hW)
    have h_ := shade_any lo W b n vO (.slice ar nr cr) wb vl' s' ((unhide HM5).below hW) ar nr cr rs ht6.isl (fun h0 k hk => (ht6.ap h0 k hk).2.2) (unhide HRO) (by rw [unhide HL5]; show 0 + nr ≤ _; omega)
    exact h_
  have HN6 := hide ((unhide HN5).shade (unhide HRO))
  have HR5 := hide ((unhide HR).kp (unhide HK5))
  have HC5 := hide ((unhide HC).kp (unhide HK5))
  have HSS : Hid (∀ W, Below w5.heap.size w5 W → W.cell? ⟨cb, 0, none⟩ = some (.pointer (some ⟨b, 0, none⟩)) ∧ W.cell? ⟨b, 1, none⟩ = some (.slice ar nr cr)) := fun W hW => ⟨(block2 (keep_below (unhide HC5).blk hW)).1, (block4 (keep_below (unhide HM5).blk hW)).1.2.1⟩
  have HLO : Hid (lo ≤ w5.heap.size) := Nat.le_of_lt (Nat.lt_of_le_of_lt (unhide HM5).lob.1 (unhide HM5).blt)
  have HDR : Hid (Below w5.heap.size w5 w5.drew) := (Below.refl _ _).drew
  clear hol hnr hn16 ht5 c0 c1 cf0 cf1 cl
  go_region_held3 (fun W => W.cell? ⟨cb, 0, none⟩ = some (.pointer (some ⟨b, 0, none⟩)) ∧ W.cell? ⟨b, 1, none⟩ = some (.slice ar nr cr))
    (first | with_reducible exact unhide HSS _ (Below.refl _ _) | with_reducible exact unhide HSS _ (unhide HDR) | with_reducible exact unhide HS6)
    (first | (go_at_call 37; (with_reducible refine Calls.mono (unhide HSH _ (unhide HDR)) ?_); rintro e w6 ⟨rfl, vl2, hm6, hk6, hb6⟩; have HM6 := hide hm6; have HK6 := hide ((unhide HK5).trans ((Kp.of_below (unhide HDR)).trans hk6)); have HB6 := hide ((unhide HB5).trans (((unhide HDR).mono (unhide HLO)).trans hb6)); have HF6 := hide (finish_any w6 lo b n vO (.slice ar nr cr) wb vl2 (shadeL s' rs) hm6 os (unhide HG) (((unhide HR5).kp (Kp.of_below (unhide HDR))).kp hk6) (unhide HN6)); have hc6 := ((unhide HC5).kp (Kp.of_below (unhide HDR))).kp hk6; have HS6 : Hid (w6.cell? ⟨cb, 0, none⟩ = some (.pointer (some ⟨b, 0, none⟩)) ∧ w6.cell? ⟨b, 1, none⟩ = some (.slice ar nr cr)) := ⟨(block2 hc6.blk).1, (block4 hm6.blk).1.2.1⟩; obtain ⟨x0, x1, xf0, xf1, xl⟩ := block2 hc6.blk; clear hm6 hk6 hb6 hc6))
  go_wp2_with (go_at_call 26; (with_reducible refine Calls.mono (unhide HF6) ?_); rintro e w7 ⟨rfl, vl3, s3, hm7, hs7, hl7, hn7, hk7, hb7⟩; have HM7 := hide hm7; have HS7 := hide hs7; have HL7 := hide hl7; have HN7 := hide hn7; have HK7 := hide ((unhide HK6).trans hk7); have HB7 := hide ((unhide HB6).trans hb7); clear hm7 hs7 hl7 hn7 hk7 hb7)
  exact bodyPost_end (v := .tuple #[]) (by simp [results, Try.results33]) rfl ⟨rfl, vl3, s3, unhide HM7, ⟨s', unhide HS5, unhide HL5, unhide HS7⟩, unhide HL7, unhide HN7, unhide HK7, unhide HB7⟩


/-- What a cycle's end makes of a marker. -/
def EndR (z : Int) (os : List (List Int)) (rs : List Int) (s s' : Mk) : Prop := s'.ln = [] ∧ ((z = 1 ∧ ∃ s1, Stp os s s1 ∧ s1.ln = [] ∧ Stp os (shadeL s1 rs) s') ∨ (z ≠ 1 ∧ Stp os s s'))
theorem end_gen {lo : Nat} {w : World} {lab : Nat → Nat} {cb : Nat} {z : Int} {b wb cw n bo co : Nat} {ar : Option Addr} {nr cr : Nat} {vl : Value} {g : Gm} (h : CyL lo w lab cb z b wb cw n bo co ar nr cr vl g) (hg : GoodG g) :
    Calls Try.prog 33 #[.pointer (some ⟨cb, 0, none⟩)] w fun e w' => e = .returned (.tuple #[]) ∧ ∃ s' lab' vl', EndR z g.os g.rs g.mm s' ∧ CyL lo w' lab' cb z b wb cw n bo co ar nr cr vl' ⟨g.os, g.rs, s'⟩ ∧ Below lo w w' := by
  have hk := hg.ln
  rw [h.hn] at hk
  by_cases hz : z = 1
  · subst hz
    exact (end_one_g w cb b wb lo lo n _ ar nr cr vl g.mm g.os g.rs (by have h_ := hg.gh.ro; rwa [h.hn] at h_) hg.gh.nr h.cycAt h.mka (hg.rows h.hn) h.rrl.rr h.rtl hk).mono fun e w' ⟨h1, vl', s', h2, h3, h4, h5, h6, h7⟩ => ⟨h1, s', _, vl', ⟨h4, Or.inl ⟨rfl, h3⟩⟩, h.kp h6 h2, h7⟩
  · exact (end_none w cb b wb lo n _ _ vl z hz g.mm h.cycAt h.mka g.os (hg.rows h.hn) h.rrl.rr hk).mono fun e w' ⟨h1, vl', s', h2, h3, h4, h5, h6, h7⟩ => ⟨h1, s', _, vl', ⟨h4, Or.inr ⟨hz, h3⟩⟩, h.kp h6 h2, h7⟩
theorem LnOk.shB {n : Nat} {m : Mk} (h : LnOk n m) (z : Int) {old new : Int} (ho : -1 ≤ old ∧ old < (n : Int)) (hv : -1 ≤ new ∧ new < (n : Int)) : LnOk n (shB z m old new) := by
  unfold Go.Proofs.Ytmkehjncnaokoaa.shB
  split
  · exact h.shade1 ho
  · split
    · exact (h.shade1 ho).shade1 hv
    · split
      · exact h.shade1 hv
      · exact h
theorem LnOk.markM {os : List (List Int)} {n : Nat} {s : Mk} (h : LnOk n s) (hg : GoodR os n) : LnOk n (markM os s) := by
  obtain ⟨wh, ln⟩ := s
  cases ln with
  | nil => exact h
  | cons f r =>
    have hfn : f < n := h.lt f (List.mem_cons_self ..)
    have hcn := h.cnt
    have hln : (f :: r).length = r.length + 1 := rfl
    simp only [hln] at hcn
    have hk1 : LnOk n ⟨wh, r⟩ := ⟨fun x hx => h.lt x (List.mem_cons_of_mem _ hx), by have h_ : cntW n ⟨wh, f :: r⟩ = cntW n ⟨wh, r⟩ := rfl; show cntW n ⟨wh, r⟩ + r.length ≤ 2000; omega⟩
    exact hk1.shade (hg.so f hfn)
theorem LnOk.born {n : Nat} {s : Mk} (h : LnOk n s) : LnOk (n + 1) ⟨fun y => if y = n then false else s.wh y, s.ln⟩ := by
  refine ⟨fun x hx => Nat.lt_succ_of_lt (h.lt x hx), ?_⟩
  have e : cntW (n + 1) ⟨fun y => if y = n then false else s.wh y, s.ln⟩ = cntW n s := by
    unfold cntW
    rw [List.range_succ, List.filter_append, List.length_append]
    have e1 : (List.range n).filter (fun y => if y = n then false else s.wh y) = (List.range n).filter s.wh := by
      apply List.filter_congr
      intro x hx
      have := List.mem_range.1 hx
      rw [if_neg (by omega)]
    rw [e1]
    simp
  rw [e]
  exact h.cnt
theorem mem_rowset {os : List (List Int)} {f t : Nat} {v : Int} {i : Nat} {o : Int} (h : o ∈ (os.set f ((os.getD f []).set t v)).getD i []) : o = v ∨ o ∈ os.getD i [] := by
  rw [getD_set] at h
  by_cases e : f = i ∧ f < os.length
  · rw [if_pos e] at h
    obtain ⟨rfl, _⟩ := e
    rcases List.mem_or_eq_of_mem_set h with q | q
    · exact Or.inr q
    · exact Or.inl q
  · rw [if_neg e] at h
    exact Or.inr h
theorem GoodG.src {g : Gm} (hg : GoodG g) {a : Int} (ha : hasSrcB g.rs.length a = true) : -1 ≤ srcG g a ∧ srcG g a < (g.os.length : Int) := srcG_ok hg rfl rfl ha
theorem GoodG.slot {g : Gm} (hg : GoodG g) {f t : Nat} (hf : f < g.os.length) (ht : t < (g.os.getD f []).length) : -1 ≤ (g.os.getD f []).getD t 0 ∧ (g.os.getD f []).getD t 0 < (g.os.length : Int) := hg.gh.so f hf _ (getD_mem ht)
theorem GoodG.setR {g : Gm} (hg : GoodG g) (ta : Nat) {v : Int} (hv : -1 ≤ v ∧ v < (g.os.length : Int)) : GoodG ⟨g.os, g.rs.set ta v, g.mm⟩ := by
  refine ⟨⟨hg.gh.no, by show (g.rs.set ta v).length ≤ 16; rw [List.length_set]; exact hg.gh.nr, fun o ho => ?_, hg.gh.ns, hg.gh.so⟩, hg.ln⟩
  rcases List.mem_or_eq_of_mem_set ho with q | q
  · exact hg.gh.ro o q
  · rw [q]; exact hv
theorem good_do {g : Gm} (z : Int) (hg : GoodG g) {x : Ac} (hx : wrongG g x = 0) : GoodG (doG z g x) := by
  rcases wrong_ops hx with ⟨h1, h2, h3⟩ | ⟨h1, h2, h3⟩ | ⟨h1, h2, h3, h4⟩ | ⟨h1, h2, h3, h4, h5, h6⟩ | h1
  · obtain ⟨op, a, b', c⟩ := x
    dsimp only at h1 h2 h3
    obtain ⟨i, f, t, rfl, hi, hq, hf, rfl, ht⟩ := hasSlB_yes hg h2
    subst h1
    have hv := hg.src h3
    have hold := hg.slot hf ht
    unfold doG
    dsimp only
    rw [if_pos rfl, rowG_at hq, hq, Int.toNat_natCast, Int.toNat_natCast]
    have hlen : (g.os.set f ((g.os.getD f []).set t (srcG g c))).length = g.os.length := List.length_set
    refine ⟨⟨by show (g.os.set f _).length ≤ 500; rw [hlen]; exact hg.gh.no, hg.gh.nr, fun o ho => by rw [hlen]; exact hg.gh.ro o ho, fun j hj => ?_, fun j hj o ho => ?_⟩, ?_⟩
    · rw [hlen] at hj
      show ((g.os.set f _).getD j []).length ≤ 20
      rw [getD_set]
      by_cases e : f = j ∧ f < g.os.length
      · rw [if_pos e, List.length_set]; exact hg.gh.ns f e.2
      · rw [if_neg e]; exact hg.gh.ns j hj
    · rw [hlen] at hj
      rw [hlen]
      rcases mem_rowset ho with q | q
      · rw [q]; exact hv
      · exact hg.gh.so j hj o q
    · show LnOk (g.os.set f _).length _
      rw [hlen]
      exact hg.ln.shB z hold hv
  · obtain ⟨op, a, b', c⟩ := x
    dsimp only at h1 h2 h3
    obtain ⟨ta, rfl, hta⟩ := hasRB_yes h2
    obtain ⟨i, f, t, rfl, hi, hq, hf, rfl, ht⟩ := hasSlB_yes hg h3
    subst h1
    unfold doG
    dsimp only
    rw [if_neg (by decide), if_pos rfl, rowG_at hq, Int.toNat_natCast, Int.toNat_natCast]
    exact hg.setR ta (hg.slot hf ht)
  · obtain ⟨op, a, b', c⟩ := x
    dsimp only at h1 h2 h3 h4
    obtain ⟨ta, rfl, hta⟩ := hasRB_yes h2
    subst h1
    unfold doG
    dsimp only
    rw [if_neg (by decide), if_neg (by decide), if_pos rfl, Int.toNat_natCast]
    exact hg.setR ta (hg.src h3)
  · obtain ⟨op, a, b', c⟩ := x
    dsimp only at h1 h2 h3 h4 h5
    obtain ⟨ta, rfl, hta⟩ := hasRB_yes h2
    obtain ⟨k, rfl⟩ : ∃ k : Nat, b' = (k : Int) := ⟨b'.toNat, by omega⟩
    subst h1
    unfold doG
    dsimp only
    rw [if_neg (by decide), if_neg (by decide), if_neg (by decide), if_pos rfl, Int.toNat_natCast, Int.toNat_natCast]
    have hlen : (g.os ++ [List.replicate k (-1)]).length = g.os.length + 1 := by rw [List.length_append]; rfl
    have hno := hg.gh.no
    refine ⟨⟨by show (g.os ++ [_]).length ≤ 500; rw [hlen]; omega, by show (g.rs.set ta _).length ≤ 16; rw [List.length_set]; exact hg.gh.nr, fun o ho => ?_, fun j hj => ?_, fun j hj o ho => ?_⟩, ?_⟩
    · show -1 ≤ o ∧ o < (((g.os ++ [List.replicate k (-1)]).length : Nat) : Int)
      rw [hlen]
      rcases List.mem_or_eq_of_mem_set ho with q | q
      · have := hg.gh.ro o q; omega
      · omega
    · show ((g.os ++ [List.replicate k (-1)]).getD j []).length ≤ 20
      have hj2 : j < g.os.length + 1 := by rw [← hlen]; exact hj
      rw [getD_app]
      by_cases e : j = g.os.length
      · rw [if_pos e, List.length_replicate]; omega
      · rw [if_neg e]; exact hg.gh.ns j (by omega)
    · show -1 ≤ o ∧ o < (((g.os ++ [List.replicate k (-1)]).length : Nat) : Int)
      have hj2 : j < g.os.length + 1 := by rw [← hlen]; exact hj
      have ho2 : o ∈ (g.os ++ [List.replicate k (-1)]).getD j [] := ho
      rw [hlen]
      rw [getD_app] at ho2
      by_cases e : j = g.os.length
      · rw [if_pos e] at ho2
        have := (List.mem_replicate.1 ho2).2
        omega
      · rw [if_neg e] at ho2
        have := hg.gh.so j (by omega) o ho2
        omega
    · show LnOk (g.os ++ [List.replicate k (-1)]).length _
      rw [hlen]
      exact hg.ln.born
  · subst h1
    exact ⟨hg.gh, hg.ln.markM hg.gh.rows⟩
/-- What the first so many acts leave. -/
def stG (z : Int) (g : Gm) (acts : List Ac) (i : Nat) : Gm := (acts.take i).foldl (doG z) g
def PreOk (z : Int) (g : Gm) (acts : List Ac) (i : Nat) : Prop := ∀ j, j < i → wrongG (stG z g acts j) (acts.getD j ac0) = 0
theorem stG_succ {z : Int} {g : Gm} {acts : List Ac} {i : Nat} (h : i < acts.length) : stG z g acts (i + 1) = doG z (stG z g acts i) (acts.getD i ac0) := by
  have e : acts.take (i + 1) = acts.take i ++ [acts.getD i ac0] := by
    rw [List.take_add_one, List.getElem?_eq_getElem h]
    simp [List.getElem?_eq_getElem h]
  unfold stG
  rw [e, List.foldl_append]
  rfl
theorem good_st {z : Int} {g : Gm} {acts : List Ac} (hg : GoodG g) : ∀ i, i ≤ acts.length → PreOk z g acts i → GoodG (stG z g acts i)
  | 0, _, _ => hg
  | i + 1, hi, hp => by
    rw [stG_succ hi]
    exact good_do z (good_st hg i (Nat.le_of_succ_le hi) (fun j hj => hp j (Nat.lt_succ_of_lt hj))) (hp i (Nat.lt_succ_self i))
end Go.Proofs.Ytmkehjncnaokoaa
