/-
  sweep.marker: its methods finish and whites.
-/
import Derived.Test.YtmkehjncnaokoaaL
namespace Go.Proofs.Ytmkehjncnaokoaa
open Go.RowKit

/-- A marker marks as long as there is something grey. -/
inductive Stp (os : List (List Int)) (s : Mk) : Mk → Prop
  | refl : Stp os s s
  | step {s' : Mk} : Stp os s s' → s'.ln ≠ [] → Stp os s (markM os s')
theorem Stp.inv {os : List (List Int)} {rs : List Int} (hg : GoodH os rs) {s s' : Mk} (h : Stp os s s') (hi : Inv os rs s) : Inv os rs s' := by
  induction h with
  | refl => exact hi
  | step _ _ ih => exact inv_mark hg ih
/-- What is whose in rows. -/
structure GoodR (os : List (List Int)) (n : Nat) : Prop where
  no : os.length = n
  n500 : n ≤ 500
  ns : ∀ i, i < n → (os.getD i []).length ≤ 20
  so : ∀ i, i < n → ∀ o ∈ os.getD i [], -1 ≤ o ∧ o < (n : Int)
theorem GoodH.rows {os : List (List Int)} {rs : List Int} (h : GoodH os rs) : GoodR os os.length := ⟨rfl, h.no, h.ns, h.so⟩
structure LnOk (n : Nat) (s : Mk) : Prop where
  lt : ∀ x ∈ s.ln, x < n
  cnt : cntW n s + s.ln.length ≤ 2000
theorem LnOk.shade {n : Nat} {s : Mk} (h : LnOk n s) {objs : List Int} (ho : ∀ o ∈ objs, -1 ≤ o ∧ o < (n : Int)) : LnOk n (shadeL s objs) := by
  refine ⟨fun x hx => ?_, by rw [shadeL_cnt objs s ho]; exact h.cnt⟩
  rcases (shadeL_ln objs s (fun o h => (ho o h).1) x).1 hx with q | ⟨_, q⟩
  · exact h.lt x q
  · have := (ho _ q).2; omega
def muW (b wb n : Nat) (w : World) : Nat := ((List.range n).filter fun x => match w.cell? ⟨wb, x, none⟩ with | some (.bool B) => B | _ => false).length + (match w.cell? ⟨b, 3, none⟩ with | some (.slice _ L _) => L | _ => 0)
theorem MkAt.mu {cw : Nat} {lo : Nat} {w : World} {b n : Nat} {vO vR : Value} {wb : Nat} {vl : Value} {s : Mk} (h : MkAt lo w b n cw vO vR wb vl s) : muW b wb n w = cntW n s + s.ln.length := by
  obtain ⟨⟨_, _, _, m3⟩, _, _⟩ := block4 h.blk
  obtain ⟨a, c, e⟩ := h.lin.form
  unfold muW cntW
  rw [m3, e]
  dsimp only
  rw [ixL_len]
  congr 2
  apply List.filter_congr
  intro x hx
  rw [h.whi x (List.mem_range.1 hx)]

set_option maxRecDepth 100000 in
set_option maxHeartbeats 4000000 in
theorem finish_any {cw : Nat} (w : World) (lo b n : Nat) (vO vR : Value) (wb : Nat) (vl : Value) (s : Mk) (h : MkAt lo w b n cw vO vR wb vl s) (os : List (List Int)) (hg : GoodR os n) (hr : Rr w b wb vl vO os) (hk : LnOk n s) :
    Calls Try.prog 26 #[.pointer (some ⟨b, 0, none⟩)] w fun e w' => e = .returned (.tuple #[]) ∧ ∃ vl' s', MkAt lo w' b n cw vO vR wb vl' s' ∧ Stp os s s' ∧ s'.ln = [] ∧ LnOk n s' ∧ Kp w w' b wb vl vl' ∧ Below lo w w' := by
  have HM := hide h; have HG := hide hg; have HR := hide hr; have HK := hide hk
  have HP := hide (Kp.refl w b wb vl)
  have HB : Hid (Below lo w w) := Below.refl _ _
  have HS : Hid (Stp os s s) := .refl
  clear h hg hr hk
  go_enter Try.func26, Try.ntmps26
  go_wp2_with fail
  go_loopw [] (fun wr => ∃ (v : Value) (s' : Mk), Hid (MkAt lo wr b n cw vO vR wb v s') ∧ Hid (Stp os s s') ∧ Hid (LnOk n s') ∧ Hid (Rr wr b wb v vO os) ∧ Hid (Kp w wr b wb vl v) ∧ Hid (Below lo w wr)) (fun wr => muW b wb n wr)
  case atStart => exact ⟨vl, s, HM, HS, HK, HR, HP, HB⟩
  case round =>
    clear HM HS HK HR HP HB
    obtain ⟨v, ⟨wh, ln⟩, HM, HS, HK, HR, HP, HB⟩ := hrel
    obtain ⟨⟨m0, m1, m2, m3⟩, ⟨mf0, mf1, mf2, mf3⟩, ml⟩ := block4 (unhide HM).blk
    obtain ⟨a, c, e⟩ := (unhide HM).lin.form
    cases ln with
    | nil =>
      have e0 : v = .slice a 0 c := e
      subst e0
      have p0 : ¬ (0 : Int) < ((0 : Nat) : Int) := by omega
      go_wp2_with fail
      exact bodyPost_end (v := .tuple #[]) (by simp [results, Try.results26]) rfl ⟨rfl, _, _, unhide HM, unhide HS, rfl, unhide HK, unhide HP, unhide HB⟩
    | cons f r =>
      have e0 : v = .slice a (r.length + 1) c := by rw [e, ixL_len]; rfl
      subst e0
      have p0 : (0 : Int) < ((r.length + 1 : Nat) : Int) := by omega
      have hf := (unhide HK).lt f (List.mem_cons_self ..)
      have hck := (unhide HK).cnt
      have hln : (f :: r).length = r.length + 1 := rfl
      have HMK := hide (mark_first wr lo b n vO vR wb _ wh f r (unhide HM) os (unhide HG).no (unhide HR) hf ((unhide HG).so f hf) ((unhide HG).ns f hf) (by simp only [hln] at hck; omega))
      have HS2 : Hid (Stp os s (shadeL ⟨wh, r⟩ (os.getD f []))) := Stp.step (s' := ⟨wh, f :: r⟩) (unhide HS) (fun q => by cases q)
      have hk1 : LnOk n ⟨wh, r⟩ := ⟨fun x hx => (unhide HK).lt x (List.mem_cons_of_mem _ hx), by have : cntW n ⟨wh, f :: r⟩ = cntW n ⟨wh, r⟩ := rfl; simp only [hln] at hck; show cntW n ⟨wh, r⟩ + r.length ≤ 2000; omega⟩
      have HK2 := hide (hk1.shade ((unhide HG).so f hf))
      have hmu : cntW n (shadeL ⟨wh, r⟩ (os.getD f [])) + (shadeL ⟨wh, r⟩ (os.getD f [])).ln.length = cntW n ⟨wh, r⟩ + r.length := shadeL_cnt _ _ ((unhide HG).so f hf)
      have HMU := hide hmu
      clear hk1 hmu hck hln hf e
      go_wp2_with (go_at_call 38; (with_reducible refine Calls.mono (unhide HMK) ?_); rintro e w5 ⟨rfl, vl', hm5, hk5, hb5⟩; have HM5 := hide hm5; have HP5 := hide ((unhide HP).trans hk5); have HR5 := hide ((unhide HR).kp hk5); have HB5 := hide ((unhide HB).trans hb5); clear hm5 hk5 hb5)
      go_roundw
      case rel => exact ⟨vl', _, HM5, HS2, HK2, HR5, HP5, HB5⟩
      case measure =>
        rw [(unhide HM5).mu, (unhide HM).mu, unhide HMU]
        have : cntW n ⟨wh, f :: r⟩ = cntW n ⟨wh, r⟩ := rfl
        rw [this]
        show _ < _ + (r.length + 1)
        omega

set_option maxRecDepth 100000 in
set_option maxHeartbeats 4000000 in
theorem whites_any {cw : Nat} (w : World) (lo b n : Nat) (vO vR : Value) (wb : Nat) (vl : Value) (s : Mk) (h : MkAt lo w b n cw vO vR wb vl s) (hn : n ≤ 100000) :
    Calls Try.prog 27 #[.pointer (some ⟨b, 0, none⟩)] w fun e w' => ∃ a c, e = .returned (.slice a ((List.range n).filter s.wh).length c) ∧ OwnO w.heap.size w' (.slice a ((List.range n).filter s.wh).length c) (ixL ((List.range n).filter s.wh)) ∧ Below w.heap.size w w' := by
  obtain ⟨⟨m0, m1, m2, m3⟩, ⟨mf0, mf1, mf2, mf3⟩, ml⟩ := block4 h.blk
  have HM := hide h
  have HX := hide (Below.refl w.heap.size w)
  have HO0 : Hid (OwnO w.heap.size w (.slice none 0 0) (ixL ((List.range 0).filter s.wh))) := OwnO.nil _ _
  clear h
  go_enter Try.func27, Try.ntmps27
  go_wp2_with fail
  clear m0 m1 m2 m3 mf0 mf1 mf2 mf3 ml
  go_loopw [3, 11] (fun s3 s11 wr => ∃ (i : Nat) (a : Option Addr) (r c : Nat), i ≤ n ∧ s11 = .int .i64 (i : Int) ∧ s3 = .slice a r c ∧ r ≤ i ∧ Hid (((List.range i).filter s.wh).length = r) ∧ Hid (OwnO w.heap.size wr (.slice a r c) (ixL ((List.range i).filter s.wh))) ∧ Hid (Below w.heap.size w wr)) (fun _ s11 _ => n - (intOf s11).toNat)
  case atStart => exact ⟨0, none, 0, 0, Nat.zero_le _, rfl, rfl, Nat.le_refl _, hide rfl, HO0, HX⟩
  case round =>
    obtain ⟨i, a, r, c, hi, rfl, rfl, hr, HRL, HO, HB⟩ := hrel
    clear HX HO0
    by_cases hlt : i < n
    · have i0 : (0 : Int) ≤ (i : Int) := by omega
      have i1 : (i : Int) < (n : Int) := by omega
      have hw1 : IntKind.i64.wrap ((i : Int) + 1) = (i : Int) + 1 := wrapi (by omega) (by omega)
      have q0 := cell_of ((unhide HM).whi i hlt) ((unhide HB).block wb (unhide HM).wlt)
      obtain ⟨B, eB⟩ : ∃ X, s.wh i = X := ⟨_, rfl⟩
      rw [eB] at q0
      cases B
      · have HF : Hid ((List.range (i + 1)).filter s.wh = (List.range i).filter s.wh) := by
          show _ = _
          rw [List.range_succ, List.filter_append, List.filter_cons, List.filter_nil, eB, if_neg Bool.false_ne_true, List.append_nil]
        clear eB
        go_wp2_with fail
        go_roundw
        case rel => exact ⟨i + 1, a, r, c, by omega, by go_num, rfl, by omega, by rw [unhide HF]; exact HRL, by rw [unhide HF]; exact HO, HB⟩
        case measure => simp [intOf]; omega
      · have HF : Hid ((List.range (i + 1)).filter s.wh = (List.range i).filter s.wh ++ [i]) := by
          show _ = _
          rw [List.range_succ, List.filter_append, List.filter_cons, List.filter_nil, eB, if_pos rfl]
        have hb3 : Below wr.heap.size wr (wr.alloc (.cells #[.int .i64 (i : Int)] 3)) := (Below.refl _ _).alloc (Nat.le_refl _) _
        have HNB := hide (block1 (new_block wr (.cells #[.int .i64 (i : Int)] 3))).1
        have HOP := hide ((unhide HO).keep hb3.size (fun k hk => hb3.block k ((unhide HO).lt k hk).2))
        have HBP := hide ((unhide HB).alloc (unhide HB).size (.cells #[.int .i64 (i : Int)] 3))
        clear eB hb3
        go_wp2_with (at_builtin; refine wpList_append_o rfl (.tmp 17) (.tmp 19) rfl w.heap.size _ (ixL ((List.range i).filter s.wh)) rfl (unhide HOP) _ (i : Int) rfl (unhide HNB) r (by rw [ixL_len]; exact unhide HRL) (by omega) (unhide HBP).size ?_; intro a7 c7 w7 ho7 hg7; have HO7 := hide ho7; have HB7 := hide ((unhide HBP).trans hg7.below); clear ho7 hg7)
        go_roundw
        case rel => exact ⟨i + 1, a7, r + 1, c7, by omega, by go_num, rfl, by omega, hide (by rw [unhide HF, List.length_append, unhide HRL]; rfl), hide (by rw [unhide HF, ixL_add]; exact unhide HO7), HB7⟩
        case measure => simp [intOf]; omega
    · obtain rfl : i = n := by omega
      have i1 : ¬ (i : Int) < (i : Int) := by omega
      go_wp2_with fail
      go_ret
      rw [unhide HRL]
      exact ⟨a, c, rfl, unhide HO, unhide HB⟩
end Go.Proofs.Ytmkehjncnaokoaa
