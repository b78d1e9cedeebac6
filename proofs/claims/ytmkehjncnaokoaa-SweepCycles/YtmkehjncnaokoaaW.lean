/-
  sweep.cycle: what is wrong with it ahead of its acts; the act GcMark; its end where there is no barrier.
-/
import Derived.Test.YtmkehjncnaokoaaV
namespace Go.Proofs.Ytmkehjncnaokoaa
open Go.RowKit

set_option maxRecDepth 100000 in
set_option maxHeartbeats 2000000 in
theorem clone_any (w : World) (a : Option Addr) (n c : Nat) (xs : List Int) (hx : IsL KI w (.slice a n c) xs) (hn : n ≤ 1000000) :
    Calls Try.prog 39 #[.slice a n c] w fun e w' => ∃ a' c', e = .returned (.slice a' n c') ∧ Own KI w.heap.size w' (.slice a' n c') xs ∧ Below w.heap.size w w' := by
  have hl := hx.len
  cases a with
  | none =>
    have h0 : n = 0 ∧ c = 0 ∧ xs = [] := by
      rcases hx.1.2 with ⟨q, q2⟩ | ⟨ad, cap, q, _⟩
      · cases q; exact ⟨rfl, rfl, List.eq_nil_of_length_eq_zero q2⟩
      · cases q
    obtain ⟨rfl, rfl, rfl⟩ := h0
    have hnil : ∀ w : World, (binOp .eql 23 (.slice none 0 0) (.slice none 0 0)).run Try.prog w = .ok (.bool true) w := fun w => by first | rfl | kernel_rfl | simp [binOp, go_sem]
    clear hx hl
    go_enter Try.func39, Try.ntmps39
    go_wp2_with fail
    go_ret
    exact ⟨none, 0, rfl, own_nil _ _, Below.refl _ _⟩
  | some ad =>
    obtain ⟨b, off, sp⟩ := ad
    have HOW : Hid (Own KI w.heap.size (w.alloc (.cells #[] 3)) (.slice (some ⟨w.heap.size, 0, none⟩) 0 0) []) := own_empty (K := KI) w
    have HB : Hid (Below w.heap.size w (w.alloc (.cells #[] 3))) := (Below.refl _ _).alloc (Nat.le_refl _) _
    have HI : Hid (IsL KI (w.alloc (.cells #[] 3)) (.slice (some ⟨b, off, sp⟩) n c) xs) := hx.below ((Below.refl _ _).alloc (Nat.le_refl _) _)
    have HLN : Hid (([] : List Int).length + xs.length = n) := by show _ = _; rw [hl]; simp
    have hnil : ∀ w : World, (binOp .eql 23 (.slice (some ⟨b, off, sp⟩) n c) (.slice none 0 0)).run Try.prog w = .ok (.bool false) w := fun w => by first | rfl | kernel_rfl | simp [binOp, go_sem]
    clear hx hl
    go_enter Try.func39, Try.ntmps39
    go_upto_region 3 with fail
    go_wp2_with (refine wpList_append ki rfl (.tmp 5) (.tmp 6) rfl w.heap.size _ [] rfl (unhide HOW) _ xs rfl (unhide HI) n (unhide HLN) (by show n * 8 ≤ 140737488355328; omega) (unhide HB).size ?_; intro a' c' w' ho hg; have HO2 := hide ho; have HB2 := hide ((unhide HB).grown hg (unhide HB).size (fun k hk => ((unhide HOW).lt k hk).1)); clear ho hg)
    go_ret
    exact ⟨a', c', rfl, unhide HO2, unhide HB2⟩

/-- A cycle lies in a block that is none of its marker's. -/
structure CycAt (w : World) (cb b wb : Nat) (vl : Value) (z : Int) : Prop where
  blk : w.heap[cb]? = some (.cells #[.pointer (some ⟨b, 0, none⟩), .int .i64 z] 60 (0, 0))
  ne : cb ≠ b ∧ cb ≠ wb ∧ vl.ownBlock ≠ some cb
theorem CycAt.kp {w w' : World} {cb b wb : Nat} {vl vl' : Value} {z : Int} (h : CycAt w cb b wb vl z) (hk : Kp w w' b wb vl vl') : CycAt w' cb b wb vl' z := by
  have hlt := (Array.getElem?_eq_some_iff.1 h.blk).1
  refine ⟨(hk.keep cb hlt h.ne.1 h.ne.2.1 h.ne.2.2).trans h.blk, h.ne.1, h.ne.2.1, fun q => ?_⟩
  rcases hk.new cb q with q2 | q2
  · exact h.ne.2.2 q2
  · omega

set_option maxRecDepth 100000 in
set_option maxHeartbeats 4000000 in
theorem wrong_mark (w : World) (cb : Nat) :
    Calls Try.prog 31 #[.pointer (some ⟨cb, 0, none⟩), .agg #[.int .i64 5, .int .i64 0, .int .i64 0, .int .i64 0]] w fun e w' => e = .returned (.int .i64 0) ∧ Below w.heap.size w w' := by
  have HX := hide ((Below.refl w.heap.size w).alloc (Nat.le_refl _) (.cells #[.int .i64 5, .int .i64 0, .int .i64 0, .int .i64 0] 47))
  have HQ := hide (new_block w (.cells #[.int .i64 5, .int .i64 0, .int .i64 0, .int .i64 0] 47))
  obtain ⟨W0, e0⟩ : ∃ X, w.alloc (.cells #[.int .i64 5, .int .i64 0, .int .i64 0, .int .i64 0] 47) = X := ⟨_, rfl⟩
  rw [e0] at HX HQ
  have HE := hide e0
  clear e0
  go_enter Try.func31, Try.ntmps31
  go_upto_region 1 with fail
  rw [unhide HE]
  clear HE
  obtain ⟨⟨q0, q1, q2, q3⟩, -, ql⟩ := block4 (unhide HQ)
  go_wp2_with fail
  go_ret
  exact ⟨rfl, unhide HX⟩

set_option maxRecDepth 100000 in
set_option maxHeartbeats 4000000 in
theorem do_mark {cw : Nat} (w : World) (cb b wb lo n : Nat) (vO vR vl : Value) (z : Int) (wh : Nat → Bool) (f : Nat) (r : List Nat) (hc : CycAt w cb b wb vl z) (h : MkAt lo w b n cw vO vR wb vl ⟨wh, f :: r⟩) (os : List (List Int)) (hn : os.length = n) (hr : Rr w b wb vl vO os) (hf : f < n) (hso : ∀ o ∈ os.getD f [], -1 ≤ o ∧ o < (n : Int)) (hns : (os.getD f []).length ≤ 20) (hrl : r.length ≤ 800000) :
    Calls Try.prog 32 #[.pointer (some ⟨cb, 0, none⟩), .agg #[.int .i64 5, .int .i64 0, .int .i64 0, .int .i64 0]] w fun e w' => e = .returned (.tuple #[]) ∧ ∃ vl', MkAt lo w' b n cw vO vR wb vl' (shadeL ⟨wh, r⟩ (os.getD f [])) ∧ Kp w w' b wb vl vl' ∧ Below lo w w' := by
  have hx := (Below.refl w.heap.size w).alloc (Nat.le_refl _) (.cells #[.int .i64 5, .int .i64 0, .int .i64 0, .int .i64 0] 47)
  have HQ := hide (new_block w (.cells #[.int .i64 5, .int .i64 0, .int .i64 0, .int .i64 0] 47))
  obtain ⟨W0, e0⟩ : ∃ X, w.alloc (.cells #[.int .i64 5, .int .i64 0, .int .i64 0, .int .i64 0] 47) = X := ⟨_, rfl⟩
  rw [e0] at hx HQ
  have HE := hide e0
  have hk : Kp w W0 b wb vl vl := Kp.of_below hx
  have HC := hide (hc.kp hk)
  have HMK := hide (mark_first W0 lo b n vO vR wb vl wh f r (h.below hx) os hn (hr.kp hk) hf hso hns hrl)
  have HK := hide hk
  have HB : Hid (Below lo w W0) := hx.mono (Nat.le_of_lt (Nat.lt_of_le_of_lt h.lob.1 h.blt))
  clear e0 hx hk hc h hr hso
  go_enter Try.func32, Try.ntmps32
  go_upto_region 1 with fail
  rw [unhide HE]
  clear HE
  obtain ⟨⟨q0, q1, q2, q3⟩, -, ql⟩ := block4 (unhide HQ)
  obtain ⟨c0, c1, cf0, cf1, cl⟩ := block2 (unhide HC).blk
  go_wp2_with (go_at_call 38; (with_reducible refine Calls.mono (unhide HMK) ?_); rintro e w5 ⟨rfl, vl', hm5, hk5, hb5⟩; have HM5 := hide hm5; have HK5 := hide ((unhide HK).trans hk5); have HB5 := hide ((unhide HB).trans hb5); clear hm5 hk5 hb5)
  first
    | exact bodyPost_end (v := .tuple #[]) (by simp [results, Try.results32]) rfl ⟨rfl, vl', unhide HM5, unhide HK5, unhide HB5⟩
    | exact bodyPost_ret (v := .tuple #[]) (by simp [results, Try.results32]) rfl ⟨rfl, vl', unhide HM5, unhide HK5, unhide HB5⟩

set_option maxRecDepth 100000 in
set_option maxHeartbeats 4000000 in
theorem end_none {cw : Nat} (w : World) (cb b wb lo n : Nat) (vO vR vl : Value) (z : Int) (hz : z ≠ 1) (s : Mk) (hc : CycAt w cb b wb vl z) (h : MkAt lo w b n cw vO vR wb vl s) (os : List (List Int)) (hg : GoodR os n) (hr : Rr w b wb vl vO os) (hk : LnOk n s) :
    Calls Try.prog 33 #[.pointer (some ⟨cb, 0, none⟩)] w fun e w' => e = .returned (.tuple #[]) ∧ ∃ vl' s', MkAt lo w' b n cw vO vR wb vl' s' ∧ Stp os s s' ∧ s'.ln = [] ∧ LnOk n s' ∧ Kp w w' b wb vl vl' ∧ Below lo w w' := by
  have HF := hide (finish_any w lo b n vO vR wb vl s h os hg hr hk)
  have HC := hide hc
  have xz : (z == 1) = false := by simpa using hz
  obtain ⟨c0, c1, cf0, cf1, cl⟩ := block2 hc.blk
  clear hc h hg hr hk hz
  go_enter Try.func33, Try.ntmps33
  go_wp2_with (go_at_call 26; (with_reducible refine Calls.mono (unhide HF) ?_); rintro e w5 ⟨rfl, vl', s', hm5, hs5, hl5, hn5, hk5, hb5⟩; have HM5 := hide hm5; have HS5 := hide hs5; have HL5 := hide hl5; have HN5 := hide hn5; have HK5 := hide hk5; have HB5 := hide hb5; obtain ⟨d0, d1, df0, df1, dl⟩ := block2 ((unhide HC).kp hk5).blk; clear hm5 hs5 hl5 hn5 hk5 hb5)
  exact bodyPost_end (v := .tuple #[]) (by simp [results, Try.results33]) rfl ⟨rfl, vl', s', unhide HM5, unhide HS5, unhide HL5, unhide HN5, unhide HK5, unhide HB5⟩

set_option maxRecDepth 100000 in
set_option maxHeartbeats 4000000 in
theorem wrongCycle_ok (w : World) (ao : Option Addr) (no co : Nat) (ar : Option Addr) (nr cr : Nat) (us : List Sl) (os : List (List Int)) (rs : List Int) (hO : IsLL w (.slice ao no co) us os) (hR : IsL KI w (.slice ar nr cr) rs) (hf : heapF os rs = (0, 0)) (z : Int) (hz0 : 0 ≤ z) (hz3 : z ≤ 3) (aa : Option Addr) (na ca : Nat) (hna : na ≤ 5000) :
    Calls Try.prog 29 #[.agg #[.slice ao no co, .slice ar nr cr], .int .i64 z, .slice aa na ca] w fun e w' => e = .returned (.agg #[.int .i64 0, .int .i64 0]) ∧ Below w.heap.size w w' := by
  have HCK : Hid (∀ W, Below w.heap.size w W → Calls Try.prog 11 #[.agg #[.slice ao no co, .slice ar nr cr]] W fun e w' => e = .returned (.agg #[.int .i64 0, .int .i64 0]) ∧ Below W.heap.size W w') := fun W hW => by
    have h_ := check_any W ao no co ar nr cr us os rs (hO.below hW) (hR.below hW)
    rwa [hf] at h_
  have i1 : ¬ z < 0 := by omega
  have i2 : ¬ 3 < z := by omega
  have i3 : ¬ (5000 : Int) < (na : Int) := by omega
  obtain ⟨W2, e2, hx, hh, hq⟩ := two_new w (.cells #[.slice ao no co, .slice ar nr cr] 25) (.cells #[.int .i64 0, .int .i64 0] 30)
  have HX := hide hx; have HH := hide hh; have HQ := hide hq; have HE2 := hide e2
  clear hx hh hq e2 hO hR hf
  go_enter Try.func29, Try.ntmps29
  go_upto_region 1 with fail
  rw [unhide HE2]
  clear HE2
  obtain ⟨b0, b1, bf0, bf1, bl⟩ := block2 (unhide HH)
  go_upto_region 2 with (go_at_call 11; (with_reducible refine Calls.mono (unhide HCK _ (unhide HX)) ?_); rintro e w3 ⟨rfl, hb3⟩; have HX3 := hide (Below.next (unhide HX) hb3 (Nat.le_refl _)); have HQ3 := hide (keep_below (unhide HQ) hb3); clear hb3)
  have HX4 := hide ((unhide HX3).alloc (unhide HX3).size (.cells #[.int .i64 0, .int .i64 0] 30)); have HQ4 := hide (keep_alloc (unhide HQ3) (.cells #[.int .i64 0, .int .i64 0] 30)); have HF4 := hide (new_block w3 (.cells #[.int .i64 0, .int .i64 0] 30))
  obtain ⟨F, eF⟩ : ∃ X, w3.heap.size = X := ⟨_, rfl⟩
  obtain ⟨W4, e4⟩ : ∃ X, w3.alloc (.cells #[.int .i64 0, .int .i64 0] 30) = X := ⟨_, rfl⟩
  rw [e4] at HX4 HQ4; rw [eF, e4] at HF4; rw [eF, e4]
  clear eF e4 HX HH HQ HX3 HQ3 HCK b0 b1 bf0 bf1 bl
  obtain ⟨g0, g1, gf0, gf1, gl⟩ := block2 (unhide HF4)
  obtain ⟨q0, q1, f0, f1, ql⟩ := block2 (unhide HQ4)
  go_wp2_with fail
  exact bodyPost_ret (v := .agg #[.int .i64 0, .int .i64 0]) (by simp [results, Try.results29, go_sem, q0, q1]) rfl ⟨rfl, below_set2 (unhide HX4) (Nat.le_succ _) _ _⟩
end Go.Proofs.Ytmkehjncnaokoaa
