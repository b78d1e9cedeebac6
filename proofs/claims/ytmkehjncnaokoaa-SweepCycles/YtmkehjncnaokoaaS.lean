/-
  ref.Not, ref.Ints, ref.Lists, ref.SameHeap.
  law.own, law.vastHeap, law.ownHeap; slices.Clone.
-/
import Derived.Test.YtmkehjncnaokoaaQ
namespace Go.Proofs.Ytmkehjncnaokoaa
open Go.RowKit

set_option maxRecDepth 100000 in
set_option maxHeartbeats 4000000 in
theorem not_any (w : World) (B no : Nat) (f : Nat → Bool) (h : BoolsAt w B no f) (hn : no ≤ 100000) :
    Calls Try.prog 17 #[.slice (some ⟨B, 0, none⟩) no no] w fun e w' => ∃ a c, e = .returned (.slice a ((List.range no).filter fun x => !f x).length c) ∧ OwnO w.heap.size w' (.slice a ((List.range no).filter fun x => !f x).length c) (ixL ((List.range no).filter fun x => !f x)) ∧ Below w.heap.size w w' := by
  have HM := hide h
  have HX := hide (Below.refl w.heap.size w)
  have HO0 : Hid (OwnO w.heap.size w (.slice none 0 0) (ixL ((List.range 0).filter fun x => !f x))) := OwnO.nil _ _
  clear h
  go_enter Try.func17, Try.ntmps17
  go_wp2_with fail
  go_loopw [3, 4] (fun s3 s4 wr => ∃ (i : Nat) (a : Option Addr) (r c : Nat), i ≤ no ∧ s4 = .int .i64 (i : Int) ∧ s3 = .slice a r c ∧ r ≤ i ∧ Hid (((List.range i).filter fun x => !f x).length = r) ∧ Hid (OwnO w.heap.size wr (.slice a r c) (ixL ((List.range i).filter fun x => !f x))) ∧ Hid (Below w.heap.size w wr)) (fun _ s _ => no - (intOf s).toNat)
  case atStart => exact ⟨0, none, 0, 0, Nat.zero_le _, rfl, rfl, Nat.le_refl _, hide rfl, HO0, HX⟩
  case round =>
    obtain ⟨i, a, r, c, hi, rfl, rfl, hr, HRL, HO, HB⟩ := hrel
    clear HX HO0
    by_cases hlt : i < no
    · have i0 : (0 : Int) ≤ (i : Int) := by omega
      have i1 : (i : Int) < (no : Int) := by omega
      have hw1 : IntKind.i64.wrap ((i : Int) + 1) = (i : Int) + 1 := wrapi (by omega) (by omega)
      have q0 := cell_of ((unhide HM).cell i hlt) ((unhide HB).block B (unhide HM).lt)
      obtain ⟨F, eF⟩ : ∃ X, f i = X := ⟨_, rfl⟩
      rw [eF] at q0
      cases F
      · have HF : Hid (((List.range (i + 1)).filter fun x => !f x) = ((List.range i).filter fun x => !f x) ++ [i]) := by
          show _ = _
          rw [List.range_succ, List.filter_append, List.filter_cons, List.filter_nil, eF]
          rfl
        have hb3 : Below wr.heap.size wr (wr.alloc (.cells #[.int .i64 (i : Int)] 3)) := (Below.refl _ _).alloc (Nat.le_refl _) _
        have HNB := hide (block1 (new_block wr (.cells #[.int .i64 (i : Int)] 3))).1
        have HOP := hide ((unhide HO).keep hb3.size (fun k hk => hb3.block k ((unhide HO).lt k hk).2))
        have HBP := hide ((unhide HB).alloc (unhide HB).size (.cells #[.int .i64 (i : Int)] 3))
        clear eF hb3
        go_wp2_with (at_builtin; refine wpList_append_o rfl (.tmp 16) (.tmp 18) rfl w.heap.size _ (ixL ((List.range i).filter fun x => !f x)) rfl (unhide HOP) _ (i : Int) rfl (unhide HNB) r (by rw [ixL_len]; exact unhide HRL) (by omega) (unhide HBP).size ?_; intro a7 c7 w7 ho7 hg7; have HO7 := hide ho7; have HB7 := hide ((unhide HBP).trans hg7.below); clear ho7 hg7)
        go_roundw
        case rel => exact ⟨i + 1, a7, r + 1, c7, by omega, by go_num, rfl, by omega, hide (by rw [unhide HF, List.length_append, unhide HRL]; rfl), hide (by rw [unhide HF, ixL_add]; exact unhide HO7), HB7⟩
        case measure => simp [intOf]; omega
      · have HF : Hid (((List.range (i + 1)).filter fun x => !f x) = ((List.range i).filter fun x => !f x)) := by
          show _ = _
          rw [List.range_succ, List.filter_append, List.filter_cons, List.filter_nil, eF]
          exact List.append_nil _
        clear eF
        go_wp2_with fail
        go_roundw
        case rel => exact ⟨i + 1, a, r, c, by omega, by go_num, rfl, by omega, by rw [unhide HF]; exact HRL, by rw [unhide HF]; exact HO, HB⟩
        case measure => simp [intOf]; omega
    · obtain rfl : i = no := by omega
      have i1 : ¬ (i : Int) < (i : Int) := by omega
      go_wp2_with fail
      go_ret
      rw [unhide HRL]
      exact ⟨a, c, rfl, unhide HO, unhide HB⟩

set_option maxRecDepth 100000 in
set_option maxHeartbeats 4000000 in
theorem ints_same (w : World) (v v' : Value) (xs : List Int) (h : IsL KI w v xs) (h' : IsL KI w v' xs) (hn : xs.length ≤ 1000000) :
    Calls Try.prog 22 #[v, v'] w fun e w' => e = .returned (.bool true) ∧ Below w.heap.size w w' := by
  obtain ⟨a, c, rfl⟩ := h.form
  obtain ⟨a', c', rfl⟩ := h'.form
  have HO := hide (h.opens ki h.len)
  have HO' := hide (h'.opens ki h'.len)
  obtain ⟨n, en⟩ : ∃ X, xs.length = X := ⟨_, rfl⟩
  rw [en] at HO HO' hn ⊢
  have HN := hide en
  have xn : ((n : Int) != (n : Int)) = false := by simp
  have HX := hide (Below.refl w.heap.size w)
  clear h h' en
  go_enter Try.func22, Try.ntmps22
  go_wp2_with fail
  go_loopw [5] (fun i wr => ∃ j : Nat, j ≤ n ∧ i = .int .i64 (j : Int) ∧ Hid (Below w.heap.size w wr)) (fun i _ => n - (intOf i).toNat)
  case atStart => exact ⟨0, Nat.zero_le _, rfl, HX⟩
  case round =>
    obtain ⟨j, hj, rfl, HB⟩ := hrel
    clear HX
    by_cases hlt : j < n
    · have i0 : (0 : Int) ≤ (j : Int) := by omega
      have i1 : (j : Int) < (n : Int) := by omega
      have hw1 : IntKind.i64.wrap ((j : Int) + 1) = (j : Int) + 1 := wrapi (by omega) (by omega)
      obtain ⟨b, o, rfl, hb, hli⟩ := unhide HO (by omega)
      obtain ⟨b', o', rfl, hb', hli'⟩ := unhide HO' (by omega)
      obtain ⟨x, ex⟩ : ∃ X, xs.getD j 0 = X := ⟨_, rfl⟩
      have k0 := (hli.below (unhide HB) hb).ints (j := j) (by rw [unhide HN]; exact hlt)
      have m0 := (hli'.below (unhide HB) hb').ints (j := j) (by rw [unhide HN]; exact hlt)
      rw [ex] at k0 m0
      have xx : (x != x) = false := by simp
      clear hli hli' ex
      go_upto_region 6 with fail
      go_quiet (fail)
      have HB2 := hide (below_drewN (unhide HB) nq)
      go_wp2_with fail
      go_roundw
      case rel => exact ⟨j + 1, by omega, by go_num, HB2⟩
      case measure => simp [intOf]; omega
    · obtain rfl : j = n := by omega
      have i1 : ¬ (j : Int) < (j : Int) := by omega
      go_wp2_with fail
      go_ret
      exact ⟨rfl, unhide HB⟩

set_option maxRecDepth 100000 in
set_option maxHeartbeats 4000000 in
theorem lists_same (w : World) (a : Option Addr) (c : Nat) (a' : Option Addr) (c' n : Nat) (us us' : List Sl) (os : List (List Int)) (h : IsLL w (.slice a n c) us os) (h' : IsLL w (.slice a' n c') us' os) (hn : n ≤ 1000000) (hr : ∀ i, i < os.length → (os.getD i []).length ≤ 1000000) :
    Calls Try.prog 28 #[.slice a n c, .slice a' n c'] w fun e w' => e = .returned (.bool true) ∧ Below w.heap.size w w' := by
  have hol : os.length = n := by rw [← h.len]; exact h.row.len
  have HOL := hide hol
  have HL := hide h; have HL' := hide h'; have HRR := hide hr
  have xn : ((n : Int) != (n : Int)) = false := by simp
  have HX := hide (Below.refl w.heap.size w)
  clear h h' hol hr
  go_enter Try.func28, Try.ntmps28
  go_wp2_with fail
  go_loopw [5] (fun i wr => ∃ j : Nat, j ≤ n ∧ i = .int .i64 (j : Int) ∧ Hid (Below w.heap.size w wr)) (fun i _ => n - (intOf i).toNat)
  case atStart => exact ⟨0, Nat.zero_le _, rfl, HX⟩
  case round =>
    obtain ⟨j, hj, rfl, HB⟩ := hrel
    clear HX
    by_cases hlt : j < n
    · have i0 : (0 : Int) ≤ (j : Int) := by omega
      have i1 : (j : Int) < (n : Int) := by omega
      have hw1 : IntKind.i64.wrap ((j : Int) + 1) = (j : Int) + 1 := wrapi (by omega) (by omega)
      have hjo : j < os.length := by rw [unhide HOL]; exact hlt
      have h1 := (unhide HL).each j hjo
      have h2 := (unhide HL').each j hjo
      obtain ⟨b, o, rfl, hb, hli⟩ := (unhide HL).row.opens kl (unhide HL).row.len (by omega)
      obtain ⟨b', o', rfl, hb', hli'⟩ := (unhide HL').row.opens kl (unhide HL').row.len (by omega)
      have hlj := unhide HRR j hjo
      obtain ⟨⟨p1, p2, p3⟩, eu⟩ : ∃ X, uAt us j = X := ⟨_, rfl⟩
      obtain ⟨⟨p1', p2', p3'⟩, eu'⟩ : ∃ X, uAt us' j = X := ⟨_, rfl⟩
      rw [eu] at h1
      rw [eu'] at h2
      have HSS : Hid (∀ W, Below wr.heap.size wr W → W.cell? ⟨b, o + j, none⟩ = some (.slice p1 p2 p3) ∧ W.cell? ⟨b', o' + j, none⟩ = some (.slice p1' p2' p3')) := fun W hW => by
        have hW2 := Below.next (unhide HB) hW (Nat.le_refl _)
        have k1 := (hli.below hW2 hb).sls (j := j) (by rw [(unhide HL).row.len]; exact hlt)
        have k2 := (hli'.below hW2 hb').sls (j := j) (by rw [(unhide HL').row.len]; exact hlt)
        rw [eu] at k1
        rw [eu'] at k2
        exact ⟨k1, k2⟩
      have HIN : Hid (∀ W, Below wr.heap.size wr W → Calls Try.prog 22 #[.slice p1 p2 p3, .slice p1' p2' p3'] W fun e w' => e = .returned (.bool true) ∧ Below W.heap.size W w') := fun W hW => by
        have hW2 := Below.next (unhide HB) hW (Nat.le_refl _)
        exact ints_same W _ _ (os.getD j []) (h1.below hW2) (h2.below hW2) hlj
      have HS0 := hide (unhide HSS wr.drew (Below.refl _ _).drew)
      clear h1 h2 hli hli' hlj eu eu' hjo
      go_upto_region 6 with fail
      go_region_held3 (fun W' => W'.cell? ⟨b, o + j, none⟩ = some (.slice p1 p2 p3) ∧ W'.cell? ⟨b', o' + j, none⟩ = some (.slice p1' p2' p3'))
        (first | exact unhide HS0 | exact unhide HS1)
        (first
          | (go_at_call 22; (with_reducible refine Calls.mono (unhide HIN _ (Below.refl _ _).drew) ?_); rintro e w1 ⟨rfl, hb1⟩; have hb2 := Below.next (Below.refl wr.heap.size wr).drew hb1 (Nat.le_refl _); have HS1 := hide (unhide HSS w1 hb2); have HX1 := hide (Below.next (unhide HB) hb2 (Nat.le_refl _)); clear hb1 hb2))
      go_wp2_with fail
      go_roundw
      case rel => exact ⟨j + 1, by omega, by go_num, HX1⟩
      case measure => simp [intOf]; omega
    · obtain rfl : j = n := by omega
      have i1 : ¬ (j : Int) < (j : Int) := by omega
      go_wp2_with fail
      go_ret
      exact ⟨rfl, unhide HB⟩

set_option maxRecDepth 100000 in
set_option maxHeartbeats 4000000 in
theorem sameHeap_any (w : World) (ao : Option Addr) (no co : Nat) (ar : Option Addr) (nr cr : Nat) (ao' : Option Addr) (co' : Nat) (ar' : Option Addr) (cr' : Nat) (us us' : List Sl) (os : List (List Int)) (rs : List Int) (hO : IsLL w (.slice ao no co) us os) (hR : IsL KI w (.slice ar nr cr) rs) (hO' : IsLL w (.slice ao' no co') us' os) (hR' : IsL KI w (.slice ar' nr cr') rs) (hno : no ≤ 1000000) (hnr : nr ≤ 1000000) (hr : ∀ i, i < os.length → (os.getD i []).length ≤ 1000000) :
    Calls Try.prog 14 #[.agg #[.slice ao no co, .slice ar nr cr], .agg #[.slice ao' no co', .slice ar' nr cr']] w fun e w' => e = .returned (.bool true) ∧ Below w.heap.size w w' := by
  have HIN : Hid (∀ W, Below w.heap.size w W → Calls Try.prog 22 #[.slice ar nr cr, .slice ar' nr cr'] W fun e w' => e = .returned (.bool true) ∧ Below W.heap.size W w') := fun W hW => ints_same W _ _ rs (hR.below hW) (hR'.below hW) (by rw [hR.len]; exact hnr)
  have HLS : Hid (∀ W, Below w.heap.size w W → Calls Try.prog 28 #[.slice ao no co, .slice ao' no co'] W fun e w' => e = .returned (.bool true) ∧ Below W.heap.size W w') := fun W hW => lists_same W _ _ _ _ _ us us' os (hO.below hW) (hO'.below hW) hno hr
  obtain ⟨W2, e2, hx, hh, hq⟩ := two_new w (.cells #[.slice ao no co, .slice ar nr cr] 25) (.cells #[.slice ao' no co', .slice ar' nr cr'] 25)
  have HX := hide hx; have HH := hide hh; have HQ := hide hq; have HE2 := hide e2
  clear hx hh hq e2 hO hR hO' hR' hr
  go_enter Try.func14, Try.ntmps14
  go_upto_region 1 with fail
  rw [unhide HE2]
  clear HE2
  obtain ⟨b0, b1, bf0, bf1, bl⟩ := block2 (unhide HH)
  obtain ⟨q0, q1, f0, f1, ql⟩ := block2 (unhide HQ)
  go_wp2_with (first
    | (go_at_call 22; (with_reducible refine Calls.mono (unhide HIN _ (unhide HX)) ?_); rintro e w3 ⟨rfl, hb3⟩; have HX3 := hide (Below.next (unhide HX) hb3 (Nat.le_refl _)); obtain ⟨c0, c1, cf0, cf1, cl⟩ := block2 (keep_below (unhide HH) hb3); obtain ⟨d0, d1, df0, df1, dl⟩ := block2 (keep_below (unhide HQ) hb3); clear hb3)
    | (go_at_call 28; (with_reducible refine Calls.mono (unhide HLS _ (unhide HX3)) ?_); rintro e w4 ⟨rfl, hb4⟩; have HX4 := hide (Below.next (unhide HX3) hb4 (Nat.le_refl _)); clear hb4))
  go_ret
  exact ⟨rfl, unhide HX4⟩


set_option maxRecDepth 100000 in
set_option maxHeartbeats 400000 in
theorem own_any (w : World) (v : Value) (xs : List Int) (hr : IsL KI w v xs) (hn : xs.length * 8 ≤ 140737488355328) :
    Calls Try.prog 23 #[v] w fun e w' => ∃ a' c', e = .returned (.slice a' xs.length c') ∧ Own KI w.heap.size w' (.slice a' xs.length c') xs ∧ Below w.heap.size w w' := by
  obtain ⟨a, c, rfl⟩ := hr.form
  have HR := hide hr
  clear hr
  go_enter Try.func23, Try.ntmps23
  go_wp2_with (at_builtin; refine wpList_append ki rfl (.const (.slice none 0 0)) (.tmp 3) rfl w.heap.size _ [] rfl (own_nil _ _) _ xs rfl (unhide HR) xs.length (by simp) hn (Nat.le_refl _) ?_; intro a' c' w1 ho hg; have HO := hide (own_nil_append ho); have HB := hide ((Below.refl w.heap.size w).grown hg (Nat.le_refl _) (fun k hk => by cases hk)); clear ho hg)
  go_ret
  exact ⟨a', c', rfl, unhide HO, unhide HB⟩

/-- More than is looked at? -/
def vastB (os : List (List Int)) (rs : List Int) : Bool := (os.any fun r => decide (1000 < r.length)) || (decide (1000 < os.length) || decide (1000 < rs.length))
theorem vast_yes {os : List (List Int)} {rs : List Int} {i : Nat} (hi : i < os.length) (h : 1000 < (os.getD i []).length) : vastB os rs = true := by
  unfold vastB
  have : (os.any fun r => decide (1000 < r.length)) = true := by
    rw [List.any_eq_true]
    refine ⟨os.getD i [], ?_, decide_eq_true h⟩
    rw [List.getD_eq_getElem?_getD, List.getElem?_eq_getElem hi]
    exact List.getElem_mem hi
  rw [this, Bool.true_or]
theorem vast_rows {os : List (List Int)} {rs : List Int} (h : ∀ i, i < os.length → ¬ 1000 < (os.getD i []).length) : vastB os rs = (decide (1000 < os.length) || decide (1000 < rs.length)) := by
  unfold vastB
  have : (os.any fun r => decide (1000 < r.length)) = false := by
    rw [List.any_eq_false]
    intro r hr
    obtain ⟨i, hi, e⟩ := List.getElem_of_mem hr
    have := h i hi
    rw [List.getD_eq_getElem?_getD, List.getElem?_eq_getElem hi] at this
    simp only [Option.getD_some] at this
    rw [← e]
    simpa using this
  rw [this, Bool.false_or]
theorem vast_no {os : List (List Int)} {rs : List Int} (h : vastB os rs = false) : (∀ i, i < os.length → (os.getD i []).length ≤ 1000) ∧ os.length ≤ 1000 ∧ rs.length ≤ 1000 := by
  have h1 : ∀ i, i < os.length → ¬ 1000 < (os.getD i []).length := fun i hi q => by rw [vast_yes hi q] at h; cases h
  have h2 := h
  rw [vast_rows h1, Bool.or_eq_false_iff, decide_eq_false_iff_not, decide_eq_false_iff_not] at h2
  exact ⟨fun i hi => Nat.le_of_not_lt (h1 i hi), by omega, by omega⟩

set_option maxRecDepth 100000 in
set_option maxHeartbeats 4000000 in
theorem vastHeap_any (w : World) (ao : Option Addr) (no co : Nat) (ar : Option Addr) (nr cr : Nat) (us : List Sl) (os : List (List Int)) (rs : List Int) (hO : IsLL w (.slice ao no co) us os) (hR : IsL KI w (.slice ar nr cr) rs) (hno : no ≤ 1000000000000000) :
    Calls Try.prog 9 #[.agg #[.slice ao no co, .slice ar nr cr]] w fun e w' => e = .returned (.bool (vastB os rs)) ∧ Below w.heap.size w w' := by
  have hol : os.length = no := by rw [← hO.len]; exact hO.row.len
  have hrn := hR.len
  have HX := hide ((Below.refl w.heap.size w).alloc (Nat.le_refl _) (.cells #[.slice ao no co, .slice ar nr cr] 25))
  have HH := hide (new_block w (.cells #[.slice ao no co, .slice ar nr cr] 25))
  obtain ⟨W1, e1⟩ : ∃ X, w.alloc (.cells #[.slice ao no co, .slice ar nr cr] 25) = X := ⟨_, rfl⟩
  rw [e1] at HX HH
  have HE1 := hide e1; have HO := hide hO; have HOL := hide hol; have HRN := hide hrn
  have HJ0 : Hid (∀ j, j < 0 → ¬ 1000 < (os.getD j []).length) := fun j hj => absurd hj (Nat.not_lt_zero _)
  clear e1 hO hR hol hrn
  go_enter Try.func9, Try.ntmps9
  go_upto_region 1 with fail
  rw [unhide HE1]
  clear HE1
  go_wp2_with fail
  go_loopw [3] (fun s wr => ∃ k : Nat, k ≤ no ∧ s = .int .i64 (k : Int) ∧ Hid (∀ j, j < k → ¬ 1000 < (os.getD j []).length) ∧ Hid (Below w.heap.size w wr) ∧ Hid (wr.heap[w.heap.size]? = some (.cells #[.slice ao no co, .slice ar nr cr] 25 (0, 0)))) (fun s _ => no - (intOf s).toNat)
  case atStart => exact ⟨0, Nat.zero_le _, rfl, HJ0, HX, HH⟩
  case round =>
    obtain ⟨k, hk, rfl, HJ, HXk, HHk⟩ := hrel
    clear HJ0 HX HH
    obtain ⟨b0, b1, bf0, bf1, bl⟩ := block2 (unhide HHk)
    by_cases hlt : k < no
    · have i4 : (0 : Int) ≤ (k : Int) := by omega
      have i5 : (k : Int) < (no : Int) := by omega
      have hw1 : IntKind.i64.wrap ((k : Int) + 1) = (k : Int) + 1 := wrapi (by omega) (by omega)
      have hko : k < os.length := by rw [unhide HOL]; exact hlt
      obtain ⟨ab, cb, hub, hrow⟩ := (unhide HO).at hko
      obtain ⟨b, o, rfl, hb, hli⟩ := (unhide HO).row.opens kl (unhide HO).row.len (by omega)
      have k0 := (hli.below (unhide HXk) hb).sls (j := k) (by rw [(unhide HO).row.len]; exact hlt)
      rw [hub] at k0
      obtain ⟨m, em⟩ : ∃ X, (os.getD k []).length = X := ⟨_, rfl⟩
      rw [em] at k0
      change wr.cell? ⟨b, o + k, none⟩ = some (.slice ab m cb) at k0
      have HEM := hide em; have HKO := hide hko
      clear hub hrow hli em hko
      by_cases h1 : 1000 < m
      · have j1 : (1000 : Int) < (m : Int) := by omega
        have HV : Hid (vastB os rs = true) := vast_yes (unhide HKO) (by rw [unhide HEM]; exact h1)
        go_wp2_with fail
        go_ret
        rw [unhide HV]
        exact ⟨rfl, unhide HXk⟩
      · have j1 : ¬ (1000 : Int) < (m : Int) := by omega
        have HJ2 : Hid (∀ j, j < k + 1 → ¬ 1000 < (os.getD j []).length) := fun j hj => by
          by_cases e : j = k
          · rw [e, unhide HEM]; exact h1
          · exact unhide HJ j (by omega)
        go_wp2_with fail
        go_roundw
        case rel => exact ⟨k + 1, by omega, by go_num, HJ2, HXk, HHk⟩
        case measure => simp [intOf]; omega
    · obtain rfl : k = no := by omega
      have i5 : ¬ (k : Int) < (k : Int) := by omega
      have HV : Hid (vastB os rs = (decide (1000 < k) || decide (1000 < nr))) := by
        show _ = _
        rw [vast_rows (fun i hi => unhide HJ i (by rw [← unhide HOL]; exact hi)), unhide HOL, unhide HRN]
      by_cases h1 : 1000 < k
      · have j1 : (1000 : Int) < (k : Int) := by omega
        rw [decide_eq_true h1, Bool.true_or] at HV
        go_wp2_with fail
        go_ret
        rw [unhide HV]
        exact ⟨rfl, unhide HXk⟩
      · have j1 : ¬ (1000 : Int) < (k : Int) := by omega
        rw [decide_eq_false h1, Bool.false_or] at HV
        by_cases h2 : 1000 < nr
        · have j2 : (1000 : Int) < (nr : Int) := by omega
          rw [decide_eq_true h2] at HV
          go_wp2_with fail
          go_ret
          rw [unhide HV]
          exact ⟨rfl, unhide HXk⟩
        · have j2 : ¬ (1000 : Int) < (nr : Int) := by omega
          rw [decide_eq_false h2] at HV
          go_wp2_with fail
          go_ret
          rw [unhide HV]
          exact ⟨rfl, unhide HXk⟩
end Go.Proofs.Ytmkehjncnaokoaa
