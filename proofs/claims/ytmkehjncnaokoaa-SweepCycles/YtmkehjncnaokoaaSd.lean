/-
  law.SweepStopped: a good heap: up to the cycle.
-/
import Derived.Test.YtmkehjncnaokoaaSc
namespace Go.Proofs.Ytmkehjncnaokoaa
open Go.RowKit

theorem heapF_zero {os : List (List Int)} {rs : List Int} (hfc : (heapF os rs).1 = 0) : heapF os rs = (0, 0) := by
  have hg : GoodH os rs := heapF_good hfc
  obtain ⟨⟨fc, fa⟩, hf⟩ : ∃ X, heapF os rs = X := ⟨_, rfl⟩
  rw [hf] at hfc
  dsimp only at hfc
  unfold heapF at hf ⊢
  have h1 : ¬ (500 < os.length ∨ 16 < rs.length) := by have := hg.no; have := hg.nr; omega
  rw [if_neg h1] at hf ⊢
  by_cases h2 : 0 ≤ fwL (os.length : Int) rs
  · rw [if_pos h2] at hf
    have := congrArg Prod.fst hf
    simp at this
    omega
  · rw [if_neg h2] at hf ⊢
    refine rowsA_none _ os 0 (fun j hj => ?_)
    have a1 := hg.ns j hj
    have a2 := hg.so j hj
    unfold rowF
    rw [if_neg (by omega)]
    rcases fw_cases (os.length : Int) (os.getD j []) with ⟨q, _⟩ | ⟨t, ht, q, hb, _⟩
    · rw [q, if_neg (by decide)]
    · exfalso
      have hm := a2 _ (getD_mem ht)
      unfold badIn at hb
      rw [decide_eq_false (by omega), decide_eq_false (by omega)] at hb
      cases hb

set_option maxRecDepth 100000 in
set_option maxHeartbeats 4000000 in
theorem stopped_good (w : World) (ao : Option Addr) (no co : Nat) (ar : Option Addr) (nr cr : Nat) (z : Int) (k : Nat) (us : List Sl) (os : List (List Int)) (rs : List Int) (hO : IsLL w (.slice ao no co) us os) (hR : IsL KI w (.slice ar nr cr) rs) (hbeg : ∀ W : World, Calls Try.prog 8 #[] W fun e w' => e = .returned (.bool true) ∧ Below W.heap.size W w') (hv : vastB os rs = false) (hf : heapF os rs = (0, 0)) (h1 : 0 ≤ z) (h2 : z ≤ 3) (h3 : k ≤ 1000) :
    Calls Try.prog 7 #[.agg #[.slice ao no co, .slice ar nr cr], .int .i64 z, .int .i64 (k : Int)] w fun e w' => e = .returned (.bool true) ∧ Below w.heap.size w w' := by
  have HX := hide ((Below.refl w.heap.size w).alloc (Nat.le_refl _) (.cells #[.slice ao no co, .slice ar nr cr] 25))
  have HH := hide (new_block w (.cells #[.slice ao no co, .slice ar nr cr] 25))
  have hno : no ≤ 500 := by
    have := (heapF_good (by rw [hf]) : GoodH os rs).no
    have := hO.len
    have := hO.row.len
    omega
  have HO := hide hO; have HR := hide hR; have HV := hide hv; have HBG := hide hbeg; have HF := hide hf
  have x2 : ((0 : Int) != 0) = false := by decide
  have y1 : ¬ z < 0 := by omega
  have y2 : ¬ 3 < z := by omega
  have y3 : ¬ (k : Int) < 0 := by omega
  have y4 : ¬ (1000 : Int) < (k : Int) := by omega
  have hfl := fld0
  obtain ⟨W, eW⟩ : ∃ X, w.alloc (.cells #[.slice ao no co, .slice ar nr cr] 25) = X := ⟨_, rfl⟩
  rw [eW] at HX HH
  have HE := hide eW
  clear eW hO hR hv hbeg hf
  go_enter Try.func7, Try.ntmps7
  go_upto_region 1 with fail
  rw [unhide HE]
  clear HE
  go_upto_region 3 with (go_at_call 8; (with_reducible refine Calls.mono (unhide HBG _) ?_); rintro e w1 ⟨rfl, hb1⟩; have HX1 := hide (Below.next (unhide HX) hb1 (Nat.le_refl _)); have HH1 := hide (keep_below (unhide HH) hb1); clear hb1)
  obtain ⟨b0, b1, bf0, bf1, bl⟩ := block2 (unhide HH1)
  go_upto_region 5 with (first | (go_at_call 9; (with_reducible refine Calls.mono (vastHeap_any _ ao no co ar nr cr us os rs ((unhide HO).below (unhide HX1)) ((unhide HR).below (unhide HX1)) (by omega)) ?_); rintro e w2 ⟨rfl, hb2⟩; rw [unhide HV]; have HX2 := hide (Below.next (unhide HX1) hb2 (Nat.le_refl _)); have HH2 := hide (keep_below (unhide HH1) hb2); obtain ⟨g0, g1, gf0, gf1, gl⟩ := block2 (unhide HH2); clear hb2) | (go_at_call 13; (with_reducible refine Calls.mono (heapsFault_any _ ao no co ar nr cr us os rs ((unhide HO).below (unhide HX2)) ((unhide HR).below (unhide HX2))) ?_); rintro e w3 ⟨rfl, hb3⟩; rw [unhide HF]; have HX3 := hide (Below.next (unhide HX2) hb3 (Nat.le_refl _)); have HH3 := hide (keep_below (unhide HH2) hb3); clear hb3))
  clear b0 b1 bf0 bf1 bl g0 g1 gf0 gf1 gl HX HX1 HX2 HH HH1 HH2 y1 y2 x2 hfl
  have HA0 : Hid (Own KA w.heap.size w3 (.slice none 0 0) (List.replicate 0 acM)) := own_nil _ _
  go_wp2_with fail
  go_loopw [7, 8] (fun s7 s8 wr => ∃ (i : Nat) (a : Option Addr) (c : Nat), i ≤ k ∧ s8 = .int .i64 (i : Int) ∧ s7 = .slice a i c ∧ Hid (Own KA (w.heap.size + 1) wr (.slice a i c) (List.replicate i acM)) ∧ Hid (Below w.heap.size w wr) ∧ Hid (wr.heap[w.heap.size]? = some (.cells #[.slice ao no co, .slice ar nr cr] 25 (0, 0)))) (fun _ s8 _ => k - (intOf s8).toNat)
  case atStart => exact ⟨0, none, 0, Nat.zero_le _, rfl, rfl, hide (own_nil _ _), HX3, HH3⟩
  case round =>
    obtain ⟨i, a, c, hi, rfl, rfl, HA, HX, HH⟩ := hrel
    clear HA0 HX3 HH3
    by_cases hin : i < k
    · have i7 : (i : Int) < (k : Int) := by omega
      have hw1 : IntKind.i64.wrap ((i : Int) + 1) = (i : Int) + 1 := wrapi (by omega) (by omega)
      have hsz : w.heap.size + 1 ≤ wr.heap.size := size_of (unhide HH)
      have HX4 := hide ((unhide HX).alloc (unhide HX).size (.cells (KA.f acM).toArray KA.e)); have HH4 := hide (keep_alloc (unhide HH) (.cells (KA.f acM).toArray KA.e)); have HA4 := hide ((unhide HA).below ((Below.refl _ _).alloc (Nat.le_refl _) (.cells (KA.f acM).toArray KA.e)))
      have HI4 := hide (isl_one ka wr acM)
      have HRL : Hid ((List.replicate i acM).length + [acM].length = i + 1) := hide (by simp)
      have HRR : Hid (List.replicate i acM ++ [acM] = List.replicate (i + 1) acM) := hide (List.replicate_succ' ..).symm
      go_wp2_with (refine wpList_append ka rfl (.tmp 43) (.tmp 45) rfl (w.heap.size + 1) _ (List.replicate i acM) rfl (unhide HA4) _ [acM] rfl (unhide HI4) (i + 1) (unhide HRL) (by show (i + 1) * 32 ≤ 140737488355328; omega) (Nat.le_trans hsz ((Below.refl wr.heap.size wr).alloc (Nat.le_refl _) (.cells (KA.f acM).toArray KA.e)).size) ?_; intro a' c' w' ho hg; rw [unhide HRR] at ho; have HA5 := hide ho; have HX5 := hide ((unhide HX4).grown hg (unhide HX4).size (fun k hk => by have := ((unhide HA4).lt k hk).1; omega)); have HH5 := hide (keep_grown (unhide HH4) hg (fun j hj e => by have := ((unhide HA4).lt j hj).1; omega)); clear ho hg)
      go_roundw
      case rel => exact ⟨i + 1, a', c', by omega, by go_num, rfl, HA5, HX5, HH5⟩
      case measure => simp [intOf]; omega
    · obtain rfl : i = k := by omega
      have i7 : ¬ (i : Int) < (i : Int) := by omega
      have HGH : Hid (GoodH os rs) := heapF_good (by rw [unhide HF])
      have HGA := hide ((unhide HA).isl)
      obtain ⟨b0, b1, bf0, bf1, bl⟩ := block2 (unhide HH)
      go_upto_region 11 with (go_at_call 19; (with_reducible refine Calls.mono (cycle_marks _ ao no co ar nr cr us os rs ((unhide HO).below (unhide HX)) ((unhide HR).below (unhide HX)) (unhide HF) z h1 h2 a i c (unhide HGA) (by omega)) ?_); rintro e w4 ⟨gb, a1, c1, xs, a4, c4, us', rfl, hl4, ho4, hi4, hr4, hb4⟩; have HX4 := hide (Below.next (unhide HX) hb4 (Nat.le_refl _)); have HH4 := hide (keep_below (unhide HH) hb4); have HL4 := hide hl4; have HO4 := hide ho4; have HI4 := hide hi4; have HR4 := hide hr4; clear hl4 ho4 hi4 hr4 hb4)
      obtain ⟨W6, e6, hx6, hg6, hf6⟩ := two_new w4 (.cells #[.slice (some ⟨gb, 0, none⟩) no no, .slice a1 nr c1] 25) (.cells #[.int .i64 0, .int .i64 0] 30)
      rw [e6]
      clear e6
      have HX6 := hide (Below.next (unhide HX4) hx6 (Nat.le_refl _)); have HH6 := hide (keep_below (unhide HH4) hx6); have HO6 := hide ((unhide HO4).isl.below hx6); have HI6 := hide ((unhide HI4).below hx6); have HR6 := hide ((unhide HR4).below hx6)
      have HSH := hide (sameHeap_any W6 (some ⟨gb, 0, none⟩) no no a1 nr c1 ao co ar cr us' us os rs (unhide HI6) (unhide HR6) ((unhide HO).below (unhide HX6)) ((unhide HR).below (unhide HX6)) (by omega) (by have h_ := (unhide HGH).nr; have := (unhide HR6).len; omega) (fun j hj => Nat.le_trans ((unhide HGH).ns j hj) (by decide)))
      have HRE : Hid (∀ W, Below w.heap.size w W → Calls Try.prog 18 #[.agg #[.slice ao no co, .slice ar nr cr]] W fun e w' => ∃ B, e = .returned (.slice (some ⟨B, 0, none⟩) no no) ∧ ∃ f, BoolsAt w' B no f ∧ (∀ x, x < no → (f x = true ↔ Rc os rs x)) ∧ W.heap.size ≤ B ∧ Below W.heap.size W w') := fun W hW => reached_any W ao no co ar nr cr us os rs ((unhide HO).below hW) ((unhide HR).below hW) (unhide HGH)
      have HOL : Hid (os.length = no) := by rw [← (unhide HO).len]; exact (unhide HO).row.len
      obtain ⟨g0, g1, gf0, gf1, gl⟩ := block2 hg6
      obtain ⟨q0, q1, qf0, qf1, ql⟩ := block2 hf6
      clear b0 b1 bf0 bf1 bl
      obtain ⟨b0, b1, bf0, bf1, bl⟩ := block2 (unhide HH6)
      clear hx6 hg6 hf6 HX HX4 HH HH4
      go_wp2_with (first | (go_at_call 14; (with_reducible refine Calls.mono (unhide HSH) ?_); rintro e w7 ⟨rfl, hb7⟩; have HX7 := hide (Below.next (unhide HX6) hb7 (Nat.le_refl _)); have HO7 := hide ((unhide HO6).below hb7); obtain ⟨p0, p1, pf0, pf1, pl⟩ := block2 (keep_below (unhide HH6) hb7); clear hb7) | (go_at_call 18; (with_reducible refine Calls.mono (unhide HRE _ (unhide HX7)) ?_); rintro e w8 ⟨B, rfl, f, hB, hf8, _, hb8⟩; have HB8 := hide hB; have HF8 := hide hf8; have HX8 := hide (Below.next (unhide HX7) hb8 (Nat.le_refl _)); have HO8 := hide ((unhide HO7).below hb8); clear hB hf8 hb8) | (go_at_call 17; (with_reducible refine Calls.mono (not_any _ B no f (unhide HB8) (by omega)) ?_); rintro e w9 ⟨a9, c9, rfl, ho9, hb9⟩; have HN9 := hide ho9; have HX9 := hide (Below.next (unhide HX8) hb9 (Nat.le_refl _)); have HO9 := hide ((unhide HO8).below hb9); have he9 : ixL xs = ixL ((List.range no).filter fun x => !f x) := by { obtain ⟨wh, hxs, hwh⟩ := unhide HL4; rw [hxs, unhide HOL]; congr 1; apply List.filter_congr; intro x hx; have hx2 := List.mem_range.1 hx; have h1_ := hwh x (by rw [unhide HOL]; exact hx2); have h2_ := unhide HF8 x hx2; cases e1 : wh x <;> cases e2 : f x <;> simp_all }; have HE9 := hide he9; clear ho9 hb9 he9) | (go_at_call 22; (with_reducible refine Calls.mono (ints_same _ _ _ (ixL xs) (unhide HO9) (by rw [unhide HE9]; exact (unhide HN9).isl) (by rw [unhide HE9, ixL_len]; have h_ := List.length_filter_le (fun x => !f x) (List.range no); rw [List.length_range] at h_; omega)) ?_); rintro e w10 ⟨rfl, hb10⟩; have HX10 := hide (Below.next (unhide HX9) hb10 (Nat.le_refl _)); clear hb10))
      go_ret
      exact ⟨rfl, unhide HX10⟩

theorem stopped_walk (w : World) (ao : Option Addr) (no co : Nat) (ar : Option Addr) (nr cr : Nat) (z k : Int) (us : List Sl) (os : List (List Int)) (rs : List Int) (hO : IsLL w (.slice ao no co) us os) (hR : IsL KI w (.slice ar nr cr) rs) (hbeg : ∀ W : World, Calls Try.prog 8 #[] W fun e w' => e = .returned (.bool true) ∧ Below W.heap.size W w') (hno : no ≤ 1000000000000000) :
    Calls Try.prog 7 #[.agg #[.slice ao no co, .slice ar nr cr], .int .i64 z, .int .i64 k] w fun e w' => e = .returned (.bool true) ∧ Below w.heap.size w w' := by
  cases hv : vastB os rs with
  | true => exact stopped_vast w ao no co ar nr cr z k us os rs hO hR hbeg hno hv
  | false =>
    obtain ⟨⟨fc, fa⟩, hf⟩ : ∃ X, heapF os rs = X := ⟨_, rfl⟩
    by_cases hfc : fc = 0
    · have hf0 := heapF_zero (by rw [hf]; exact hfc)
      by_cases hw : z < 0 ∨ 3 < z ∨ k < 0 ∨ 1000 < k
      · exact stopped_out w ao no co ar nr cr z k us os rs hO hR hbeg hno hv hf0 hw
      · obtain ⟨n, rfl⟩ : ∃ n : Nat, k = (n : Int) := ⟨k.toNat, by omega⟩
        exact stopped_good w ao no co ar nr cr z n us os rs hO hR hbeg hv hf0 (by omega) (by omega) (by omega)
    · exact stopped_fault w ao no co ar nr cr z k us os rs hO hR hbeg hno hv fc fa hf hfc
end Go.Proofs.Ytmkehjncnaokoaa
