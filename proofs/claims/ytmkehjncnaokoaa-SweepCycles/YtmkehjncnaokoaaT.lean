/-
  law.ownHeap.
-/
import Derived.Test.YtmkehjncnaokoaaS
namespace Go.Proofs.Ytmkehjncnaokoaa
open Go.RowKit

theorem Own.by_type {α β : Type} {K : Kind α} {L : Kind β} {base base' : Nat} {w w' : World} {v v' : Value} {xs : List α} {ys : List β} (h : Own K base w v xs) (h' : Own L base' w v' ys) (ht : L.e ≠ K.e) (hg : w.grownBy w' v'.ownBlock) : Own K base w' v xs := h.keep fun k hk => by
  obtain ⟨_, _, _, _, hb⟩ := hg
  have hlt := (h.lt k hk).2
  refine hb k hlt ?_
  obtain ⟨_, ⟨rfl, _⟩ | ⟨g, cap, cur, rfl, hg2, hh, _⟩⟩ := h
  · cases hk
  · cases hk
    cases e : v'.ownBlock with
    | none => simp
    | some j =>
      have := Own.ne h' hh (Ne.symm ht) j e
      simp
      omega
theorem uAt_app {us : List Sl} {u : Sl} {j : Nat} (h : j < us.length) : uAt (us ++ [u]) j = uAt us j := by
  unfold uAt
  rw [List.getD_eq_getElem?_getD, List.getD_eq_getElem?_getD, List.getElem?_append_left h]
theorem uAt_last {us : List Sl} {u : Sl} : uAt (us ++ [u]) us.length = u := by
  unfold uAt
  rw [List.getD_eq_getElem?_getD, List.getElem?_append_right (Nat.le_refl _), Nat.sub_self]
  rfl

set_option maxRecDepth 100000 in
set_option maxHeartbeats 4000000 in
theorem ownHeap_any (w : World) (ao : Option Addr) (no co : Nat) (ar : Option Addr) (nr cr : Nat) (us : List Sl) (os : List (List Int)) (rs : List Int) (hO : IsLL w (.slice ao no co) us os) (hR : IsL KI w (.slice ar nr cr) rs) (hno : no ≤ 1000) (hnr : nr ≤ 1000) (hrl : ∀ i, i < os.length → (os.getD i []).length ≤ 1000) :
    Calls Try.prog 10 #[.agg #[.slice ao no co, .slice ar nr cr]] w fun e w' => ∃ a c a2 c2, e = .returned (.agg #[.slice a no c, .slice a2 nr c2]) ∧ (∃ us', IsLL w' (.slice a no c) us' os) ∧ IsL KI w' (.slice a2 nr c2) rs ∧ Below w.heap.size w w' := by
  have hol : os.length = no := by rw [← hO.len]; exact hO.row.len
  have hrn := hR.len
  obtain ⟨W2, e2, hx, hh, hq⟩ := two_new w (.cells #[.slice ao no co, .slice ar nr cr] 25) (.cells #[.slice none 0 0, .slice none 0 0] 25)
  have hs2 : w.heap.size + 2 ≤ W2.heap.size := by have := (Array.getElem?_eq_some_iff.1 hq).1; omega
  have HS2 := hide hs2
  have HX := hide hx; have HH := hide hh; have HQ := hide hq; have HE2 := hide e2
  have HO := hide hO; have HR := hide hR; have HRL := hide hrl
  have HOL := hide hol; have HRN := hide hrn
  have HU0 : Hid (Own KL (w.heap.size + 2) W2 (.slice none 0 0) []) := own_nil _ _
  have HE0 : Hid (∀ j, j < 0 → Own KI (w.heap.size + 2) W2 (sl (uAt [] j)) (os.getD j [])) := fun j hj => absurd hj (Nat.not_lt_zero _)
  clear hx hh hq e2 hO hR hol hrn hrl hs2
  go_enter Try.func10, Try.ntmps10
  go_upto_region 1 with fail
  rw [unhide HE2]
  clear HE2
  go_wp2_with fail
  go_loopw [3, 4] (fun s3 s4 wr => ∃ (i : Nat) (a : Option Addr) (c : Nat) (vs : List Sl), i ≤ no ∧ s4 = .int .i64 (i : Int) ∧ s3 = .slice a i c ∧ Hid (vs.length = i) ∧ Hid (Own KL (w.heap.size + 2) wr (.slice a i c) vs) ∧ Hid (∀ j, j < i → Own KI (w.heap.size + 2) wr (sl (uAt vs j)) (os.getD j [])) ∧ Hid (w.heap.size + 2 ≤ wr.heap.size) ∧ Hid (Below w.heap.size w wr) ∧ Hid (wr.heap[w.heap.size]? = some (.cells #[.slice ao no co, .slice ar nr cr] 25 (0, 0))) ∧ Hid (wr.heap[w.heap.size + 1]? = some (.cells #[.slice none 0 0, .slice none 0 0] 25 (0, 0)))) (fun _ s _ => no - (intOf s).toNat)
  case atStart => exact ⟨0, none, 0, [], Nat.zero_le _, rfl, rfl, hide rfl, HU0, HE0, HS2, HX, HH, HQ⟩
  case round =>
    obtain ⟨i, a, c, vs, hi, rfl, rfl, HVL, HU, HEA, HSz, HXi, HHi, HQi⟩ := hrel
    clear HU0 HE0 HS2 HX HH HQ
    obtain ⟨b0, b1, bf0, bf1, bl⟩ := block2 (unhide HHi)
    by_cases hin : i < no
    · have i6 : (0 : Int) ≤ (i : Int) := by omega
      have i7 : (i : Int) < (no : Int) := by omega
      have hw2 : IntKind.i64.wrap ((i : Int) + 1) = (i : Int) + 1 := wrapi (by omega) (by omega)
      have hko : i < os.length := by rw [unhide HOL]; exact hin
      obtain ⟨ab, cb, hub, hrow⟩ := (unhide HO).at hko
      obtain ⟨b, o, rfl, hb, hli⟩ := (unhide HO).row.opens kl (unhide HO).row.len (by omega)
      have k0 := (hli.below (unhide HXi) hb).sls (j := i) (by rw [(unhide HO).row.len]; exact hin)
      rw [hub] at k0
      have hml := unhide HRL i hko
      obtain ⟨m, em⟩ : ∃ X, (os.getD i []).length = X := ⟨_, rfl⟩
      have HOW : Hid (Calls Try.prog 23 #[.slice ab m cb] wr fun e w' => ∃ a' c', e = .returned (.slice a' m c') ∧ Own KI wr.heap.size w' (.slice a' m c') (os.getD i []) ∧ Below wr.heap.size wr w') := by
        have h_ := own_any wr (.slice ab (os.getD i []).length cb) (os.getD i []) (hrow.below (unhide HXi)) (by omega)
        rwa [em] at h_
      rw [em] at k0
      change wr.cell? ⟨b, o + i, none⟩ = some (.slice ab m cb) at k0
      clear hub hrow hli em hko hml
      go_wp2_with (first
        | (go_at_call 23; (with_reducible refine Calls.mono (unhide HOW) ?_); rintro e w5 ⟨a5, c5, rfl, ho5, hb5⟩; have HO5 := hide (ho5.base (unhide HSz)); have HU5 := hide ((unhide HU).below hb5); have HE5 : Hid (∀ j, j < i → Own KI (w.heap.size + 2) w5 (sl (uAt vs j)) (os.getD j [])) := (fun j hj => (unhide HEA j hj).below hb5); have HX5 := hide (Below.next (unhide HXi) hb5 (Nat.le_refl _)); have HH5 := hide (keep_below (unhide HHi) hb5); have HQ5 := hide (keep_below (unhide HQi) hb5); have HZ5 := hide (Nat.le_trans (unhide HSz) hb5.size); have hb6 : Below w5.heap.size w5 (w5.alloc (.cells #[.slice a5 m c5] 23)) := (Below.refl _ _).alloc (Nat.le_refl _) _; have HO6 := hide ((unhide HO5).below hb6); have HU6 := hide ((unhide HU5).below hb6); have HE6 : Hid (∀ j, j < i → Own KI (w.heap.size + 2) (w5.alloc (.cells #[.slice a5 m c5] 23)) (sl (uAt vs j)) (os.getD j [])) := (fun j hj => (unhide HE5 j hj).below hb6); have HX6 := hide (Below.next (unhide HX5) hb6 (Nat.le_refl _)); have HH6 := hide (keep_below (unhide HH5) hb6); have HQ6 := hide (keep_below (unhide HQ5) hb6); have HZ6 := hide (Nat.le_trans (unhide HZ5) hb6.size); have HI6 := hide (isl_one kl w5 (a5, m, c5)); clear ho5 hb5 hb6)
        | (at_builtin; refine wpList_append kl rfl (.tmp 12) (.tmp 19) rfl (w.heap.size + 2) _ vs rfl (unhide HU6) _ [(a5, m, c5)] rfl (unhide HI6) (i + 1) (by rw [unhide HVL]; rfl) (by show (i + 1) * 24 ≤ 140737488355328; omega) (unhide HZ6) ?_; intro a7 c7 w7 ho7 hg7; have HU7 := hide ho7; have HO7 := hide ((unhide HO6).by_type (unhide HU6) (by decide) hg7); have HE7 : Hid (∀ j, j < i → Own KI (w.heap.size + 2) w7 (sl (uAt vs j)) (os.getD j [])) := (fun j hj => (unhide HE6 j hj).by_type (unhide HU6) (by decide) hg7); have HX7 := hide ((unhide HX6).grown hg7 (Nat.le_trans (Nat.le_add_right _ 2) (unhide HZ6)) (fun k hk => Nat.le_trans (Nat.le_add_right _ 2) ((unhide HU6).lt k hk).1)); have HH7 := hide (keep_grown (unhide HH6) hg7 (fun j hj => by have h_ := ((unhide HU6).lt j hj).1; omega)); have HQ7 := hide (keep_grown (unhide HQ6) hg7 (fun j hj => by have h_ := ((unhide HU6).lt j hj).1; omega)); have HZ7 : Hid (w.heap.size + 2 ≤ w7.heap.size) := Nat.le_trans (unhide HZ6) (by obtain ⟨_, _, _, hs_, _⟩ := hg7; exact hs_); clear ho7 hg7))
      go_roundw
      case rel => exact ⟨i + 1, a7, c7, vs ++ [(a5, m, c5)], by omega, by go_num, rfl, hide (by rw [List.length_append, unhide HVL]; rfl), HU7, hide (fun j hj => by
        by_cases e : j = i
        · subst e
          have e2 : uAt (vs ++ [(a5, m, c5)]) j = (a5, m, c5) := by have h_ := uAt_last (us := vs) (u := (a5, m, c5)); rwa [unhide HVL] at h_
          rw [e2]
          exact unhide HO7
        · rw [uAt_app (by rw [unhide HVL]; omega)]
          exact unhide HE7 j (by omega)), HZ7, HX7, HH7, HQ7⟩
      case measure => simp [intOf]; omega
    · obtain rfl : i = no := by omega
      have i7 : ¬ (i : Int) < (i : Int) := by omega
      have HOW : Hid (Calls Try.prog 23 #[.slice ar nr cr] wr fun e w' => ∃ a' c', e = .returned (.slice a' nr c') ∧ Own KI wr.heap.size w' (.slice a' nr c') rs ∧ Below wr.heap.size wr w') := by
        have h_ := own_any wr (.slice ar nr cr) rs ((unhide HR).below (unhide HXi)) (by rw [unhide HRN]; omega)
        rwa [unhide HRN] at h_
      go_wp2_with (go_at_call 23; (with_reducible refine Calls.mono (unhide HOW) ?_); rintro e w5 ⟨a5, c5, rfl, ho5, hb5⟩; have HO5 := hide (ho5.base (unhide HSz)); have HU5 := hide ((unhide HU).below hb5); have HE5 : Hid (∀ j, j < i → Own KI (w.heap.size + 2) w5 (sl (uAt vs j)) (os.getD j [])) := (fun j hj => (unhide HEA j hj).below hb5); have HX5 := hide (Below.next (unhide HXi) hb5 (Nat.le_refl _)); have hq5 := keep_below (unhide HQi) hb5; obtain ⟨q0, q1, qf0, qf1, ql⟩ := block2 hq5; clear ho5 hb5 hq5)
      have hk : ∀ (x y : Value) k, w.heap.size + 2 ≤ k → ((w5.setCell ⟨w.heap.size + 1, 0, none⟩ x).setCell ⟨w.heap.size + 1, 1, none⟩ y).heap[k]? = w5.heap[k]? := fun x y k hk => (Below.heap_setCell _ _ _ _ (by intro e; have e' : k = w.heap.size + 1 := e; omega)).trans (Below.heap_setCell _ _ _ _ (by intro e; have e' : k = w.heap.size + 1 := e; omega))
      refine bodyPost_ret (v := .agg #[.slice a i c, .slice a5 nr c5]) (by simp [results, Try.results10, go_sem, q0, q1]) rfl ⟨a, c, a5, c5, rfl, ⟨vs, ?_, ?_, ?_⟩, ?_, below_set2 (unhide HX5) (Nat.le_succ _) _ _⟩
      · exact ((unhide HU5).keep (fun k hk2 => hk _ _ k ((unhide HU5).lt k hk2).1)).isl
      · rw [unhide HVL, unhide HOL]
      · exact fun j hj => ((unhide HE5 j (by rw [← unhide HOL]; exact hj)).keep (fun k hk2 => hk _ _ k ((unhide HE5 j (by rw [← unhide HOL]; exact hj)).lt k hk2).1)).isl
      · exact ((unhide HO5).keep (fun k hk2 => hk _ _ k ((unhide HO5).lt k hk2).1)).isl
end Go.Proofs.Ytmkehjncnaokoaa
