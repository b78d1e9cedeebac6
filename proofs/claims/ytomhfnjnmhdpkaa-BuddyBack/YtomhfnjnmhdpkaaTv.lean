/-
  taskmilllaw.BuddyTakes.
-/
import Derived.Test.YtomhfnjnmhdpkaaTo
import Derived.Test.YtomhfnjnmhdpkaaGv
namespace Go.Proofs.Ytomhfnjnmhdpkaa
open Go.RowKit

/-- What Take answers: the fault, where the block starts, and the space. -/
def takeR (b : Int) (us fs : List Bl) (z : Int) : (Int × Int) × Int × Int × List Bl × List Bl :=
  if ¬ (spaceF b us fs).1 = 0 then (spaceF b us fs, 0, 0, [], [])
  else if z < 1 ∨ 1073741824 < z then ((3, -1), 0, 0, [], [])
  else match leastL (asks z) fs with
    | none => ((6, 0), 0, 0, [], [])
    | some x => if 5000 < us.length + fs.length + (halves z x.1 31 x.2).2.length then ((9, 0), 0, 0, [], []) else ((0, 0), x.1, b, takeUs z us x, takeFs z fs x)
theorem take_any (w : World) (v : Value) (b : Int) (us fs : List Bl) (z : Int) (h : IsS w v b us fs) (hn : us.length ≤ 100000) (hm : fs.length ≤ 100000) (hb1 : Bnd us) (hb2 : Bnd fs) :
    Calls Try.prog 11 #[v, .int .i64 z] w fun e w' => ∃ au nu cu af nf cf, e = .returned (.tuple #[.agg #[.int .i64 (takeR b us fs z).2.2.1, .slice au nu cu, .slice af nf cf], .int .i64 (takeR b us fs z).2.1, .agg #[.int .i64 (takeR b us fs z).1.1, .int .i64 (takeR b us fs z).1.2]]) ∧ IsS w' (.agg #[.int .i64 (takeR b us fs z).2.2.1, .slice au nu cu, .slice af nf cf]) (takeR b us fs z).2.2.1 (takeR b us fs z).2.2.2.1 (takeR b us fs z).2.2.2.2 ∧ Below w.heap.size w w' := by
  unfold takeR
  by_cases hf : (spaceF b us fs).1 = 0
  · rw [if_neg (by simpa using hf)]
    have hz := spaceF_zero hf
    by_cases hr : z < 1 ∨ 1073741824 < z
    · rw [if_pos hr]
      refine (take_range w v b us fs z h hn hm hb1 hb2 hz hr).mono ?_
      rintro e' w' ⟨rfl, hb⟩
      exact ⟨none, 0, 0, none, 0, 0, rfl, zero_s w', hb⟩
    · rw [if_neg hr]
      cases hl : leastL (asks z) fs with
      | none =>
        refine (take_none w v b us fs z h hn hm hb1 hb2 hz (by omega) (by omega) hl).mono ?_
        rintro e' w' ⟨rfl, hb⟩
        exact ⟨none, 0, 0, none, 0, 0, rfl, zero_s w', hb⟩
      | some x =>
        by_cases hq : 5000 < us.length + fs.length + (halves z x.1 31 x.2).2.length
        · simp only
          rw [if_pos hq]
          refine (take_much w v b us fs z h hn hm hb1 hb2 hz (by omega) (by omega) x hl hq).mono ?_
          rintro e' w' ⟨rfl, hb⟩
          exact ⟨none, 0, 0, none, 0, 0, rfl, zero_s w', hb⟩
        · simp only
          rw [if_neg hq]
          refine (take_ok w v b us fs z h hn hm hb1 hb2 hz (by omega) (by omega) x hl (by omega)).mono ?_
          rintro e' w' ⟨sv, rfl, ⟨a, c, a', c', rfl, h1, h2⟩, hb⟩
          exact ⟨_, _, _, _, _, _, rfl, ⟨_, _, rfl, h1.1, h2.1⟩, hb⟩
  · rw [if_pos hf]
    refine (take_fault w v b us fs z h hn hm hb1 hb2 hf).mono ?_
    rintro e' w' ⟨rfl, hb⟩
    exact ⟨none, 0, 0, none, 0, 0, rfl, zero_s w', hb⟩
theorem noB_count {x : Bl} : ∀ {xs : List Bl}, Rise xs → x ∈ xs → (noB x xs).length + 1 = xs.length
  | [], _, h => by cases h
  | y :: ys, hr, h => by
    obtain ⟨h1, h2⟩ := List.pairwise_cons.1 hr
    by_cases e : y = x
    · subst e
      have h3 : noB y (y :: ys) = noB y ys := by unfold noB leftL; rw [List.filter_cons]; simp
      have h4 : noB y ys = ys := by
        unfold noB leftL
        rw [List.filter_eq_self]
        intro z hz
        have := h1 z hz
        have h5 : (z.1 == y.1) = false := by simp; omega
        simp [h5]
      rw [h3, h4, List.length_cons]
    · have h3 : noB x (y :: ys) = y :: noB x ys := by
        unfold noB leftL
        rw [List.filter_cons]
        have : (y.1 == x.1 && y.2 == x.2) = false := by
          rw [Bool.eq_false_iff]
          intro h5
          obtain ⟨a, b⟩ := x
          obtain ⟨c, d⟩ := y
          simp at h5
          exact e (by rw [h5.1, h5.2])
        simp [this]
      rw [h3, List.length_cons, List.length_cons]
      rcases List.mem_cons.1 h with h4 | h4
      · exact absurd h4.symm e
      · have := noB_count h2 h4; omega
/-- How many blocks a space has in which one is taken. -/
theorem take_lens {b : Int} {us fs : List Bl} {z : Int} (hz : spaceF b us fs = (0, 0)) {x : Bl} (hl : leastL (asks z) fs = some x) : (takeUs z us x).length = us.length + 1 ∧ (takeFs z fs x).length + 1 = fs.length + (halves z x.1 31 x.2).2.length := by
  have hmem : x ∈ fs := by
    rcases leastL_mem fs none x hl with h1 | h1
    · cases h1
    · exact h1.1
  have hr := (spaceF_good hz).2.2.2.1.2
  refine ⟨insB_len _ _, ?_⟩
  unfold takeFs
  rw [insAll_len]
  have h1 := noB_count hr hmem
  omega
theorem isS_later {w w' : World} {v : Value} {b : Int} {us fs : List Bl} (h : IsS w v b us fs) (hb : Below w.heap.size w w') : IsS w' v b us fs := h.below hb
theorem NewS.putL {base R : Nat} {w : World} {v : Value} {b : Int} {us fs : List Bl} (h : NewS base w v b us fs) (hR : R < base) {y0 y1 y2 : Value} : NewS base (putL w R y0 y1 y2) v b us fs := by
  obtain ⟨a, c, a', c', rfl, h1, h2⟩ := h
  exact ⟨a, c, a', c', rfl, ((h1.set kb hR).set kb hR).set kb hR, ((h2.set kb hR).set kb hR).set kb hR⟩
theorem NewS.below {base : Nat} {w w' : World} {v : Value} {b : Int} {us fs : List Bl} (h : NewS base w v b us fs) (hb : Below w.heap.size w w') : NewS base w' v b us fs := by
  obtain ⟨a, c, a', c', rfl, h1, h2⟩ := h
  exact ⟨a, c, a', c', rfl, h1.below hb, h2.below hb⟩

set_option maxRecDepth 100000 in
set_option maxHeartbeats 4000000 in
theorem takes_lo (w : World) (v : Value) (b : Int) (us fs : List Bl) (z bits : Int) (h : IsS w v b us fs) (hn : us.length ≤ 1000000000000000) (hm : fs.length ≤ 1000000000000000) (hb1 : Bnd us) (hb2 : Bnd fs) (hbb : bits < 0) :
    Calls Try.prog 3 #[v, .int .i64 z, .int .i64 bits] w fun e w' => e = .returned (.bool true) ∧ Below w.heap.size w w' := by
  have HV := hide (fun W (hW : Below w.heap.size w W) => vastSpace_any W v b us fs (h.below hW) hn hm)
  have HBG := hide (fun W => begun_any W)
  obtain ⟨VST, eVST⟩ : ∃ X, decide (6000 < us.length + fs.length) = X := ⟨_, rfl⟩
  rw [eVST] at HV
  have HVS := hide eVST
  have HI := hide h; have HB1' := hide hb1; have HB2' := hide hb2
  obtain ⟨a0, c0, a1, c1, rfl, hu, hf⟩ := h.form
  obtain ⟨n, en⟩ : ∃ n, us.length = n := ⟨_, rfl⟩
  obtain ⟨m, em⟩ : ∃ m, fs.length = m := ⟨_, rfl⟩
  rw [en, em] at HV HI ⊢
  have HNU := hide en; have HNF := hide em
  have HX := hide ((Below.refl w.heap.size w).alloc (Nat.le_refl _) (.cells #[.int .i64 b, .slice a0 n c0, .slice a1 m c1] 24))
  have HP := hide (new_block w (.cells #[.int .i64 b, .slice a0 n c0, .slice a1 m c1] 24))
  obtain ⟨W0, e0⟩ : ∃ W, w.alloc (.cells #[.int .i64 b, .slice a0 n c0, .slice a1 m c1] 24) = W := ⟨_, rfl⟩
  rw [e0] at HX HP
  have HE := hide e0
  clear h hu hf en em e0 hb1 hb2 eVST hn hm
  go_enter Try.func3, Try.ntmps3
  go_upto_region 1 with fail
  rw [unhide HE]
  clear HE
  go_upto_region 3 with (go_at_call 7; refine (unhide HBG _).mono ?_; rintro e w1 ⟨rfl, hb1⟩; have HX_1 := hide (Below.next (unhide HX) hb1 (by first | exact Nat.le_refl _ | (have := unhide HBA; omega))); have Kp_1 := hide (keep_below (unhide HP) hb1); clear HX HP; clear hb1)
  obtain ⟨⟨p0, p1, p2⟩, ⟨pf0, pf1, pf2⟩, pl⟩ := block3 (unhide Kp_1)
  cases VST with
  | true =>
    go_wp2_with (go_at_call 8; refine (unhide HV _ (unhide HX_1)).mono ?_; rintro e w2 ⟨rfl, hb2⟩; have HX2 := hide (Below.next (unhide HX_1) hb2 (Nat.le_refl _)); clear hb2)
    go_ret
    exact ⟨rfl, unhide HX2⟩
  | false =>
    have hv : us.length + fs.length ≤ 6000 := by have := of_decide_eq_false (unhide HVS); omega
    have HVL := hide hv
    have hn : n ≤ 6000 := by have := unhide HNU; omega
    have hm : m ≤ 6000 := by have := unhide HNF; omega
    have HOW : Hid (∀ W, Below w.heap.size w W → Calls Try.prog 9 #[.agg #[.int .i64 b, .slice a0 n c0, .slice a1 m c1]] W fun e w' => ∃ sv, e = .returned sv ∧ NewS W.heap.size w' sv b us fs ∧ Below W.heap.size W w') := fun W hW => ownSpace_any W _ b us fs ((unhide HI).below hW) (by omega) (by omega)
    have HSF : Hid (∀ W, Below w.heap.size w W → Calls Try.prog 13 #[.agg #[.int .i64 b, .slice a0 n c0, .slice a1 m c1]] W fun e w' => e = .returned (faultV (spaceF b us fs)) ∧ Below W.heap.size W w') := fun W hW => refFault_any W _ b us fs ((unhide HI).below hW) (by omega) (by omega)
    have HCK : Hid (∀ W sv, IsS W sv b us fs → Calls Try.prog 10 #[sv] W fun e w' => e = .returned (faultV (spaceF b us fs)) ∧ Below W.heap.size W w') := fun W sv hs => check_any W sv b us fs hs (by omega) (by omega) (unhide HB1') (unhide HB2')
    have HTK : Hid (∀ W sv, IsS W sv b us fs → Calls Try.prog 11 #[sv, .int .i64 z] W fun e w' => ∃ au nu cu af nf cf, e = .returned (.tuple #[.agg #[.int .i64 (takeR b us fs z).2.2.1, .slice au nu cu, .slice af nf cf], .int .i64 (takeR b us fs z).2.1, .agg #[.int .i64 (takeR b us fs z).1.1, .int .i64 (takeR b us fs z).1.2]]) ∧ IsS w' (.agg #[.int .i64 (takeR b us fs z).2.2.1, .slice au nu cu, .slice af nf cf]) (takeR b us fs z).2.2.1 (takeR b us fs z).2.2.2.1 (takeR b us fs z).2.2.2.2 ∧ Below W.heap.size W w') := fun W sv hs => take_any W sv b us fs z hs (by omega) (by omega) (unhide HB1') (unhide HB2')
    have hbits : bits < 0 ∨ 30 < bits := Or.inl hbb
    have HNW : Hid (∀ W, Calls Try.prog 12 #[.int .i64 bits] W fun e w' => ∃ ea en ec eb em ed, e = .returned (.tuple #[.agg #[.int .i64 0, .slice ea en ec, .slice eb em ed], .agg #[.int .i64 3, .int .i64 (-1)]]) ∧ IsS w' (.agg #[.int .i64 0, .slice ea en ec, .slice eb em ed]) 0 [] [] ∧ Below W.heap.size W w') := fun W => (new_bad W bits hbits).mono fun e w' ⟨h1, h2⟩ => ⟨none, 0, 0, none, 0, 0, h1, zero_s w', h2⟩
    obtain ⟨⟨⟨FC, FA⟩, AT, b', us', fs'⟩, eG⟩ : ∃ G, takeR b us fs z = G := ⟨_, rfl⟩
    rw [eG] at HTK
    simp only at HTK
    have HG := hide eG
    obtain ⟨⟨wc, wa⟩, eS⟩ : ∃ S, spaceF b us fs = S := ⟨_, rfl⟩
    rw [eS] at HSF HCK
    have HS := hide eS
    have hqw : ∀ w, (Op.equalIn 10000 29 (.agg #[.int .i64 wc, .int .i64 wa]) (.agg #[.int .i64 wc, .int .i64 wa])).run Try.prog w = .ok true w := fun w => by rw [flt_eq]; simp
    clear eG eS HB1' HB2' HVS HBG hv
    go_upto_region 5 with (go_at_call 8; refine (unhide HV _ (unhide HX_1)).mono ?_; rintro e w2 ⟨rfl, hb2⟩; have HX_2 := hide (Below.next (unhide HX_1) hb2 (by first | exact Nat.le_refl _ | (have := unhide HBA; omega))); have Kp_2 := hide (keep_below (unhide Kp_1) hb2); clear HX_1 Kp_1; clear hb2 HV p0 p1 p2 pf0 pf1 pf2 pl)
    obtain ⟨⟨p0, p1, p2⟩, ⟨pf0, pf1, pf2⟩, pl⟩ := block3 (unhide Kp_2)
    go_upto_region 6 with (go_at_call 9; refine (unhide HOW _ (unhide HX_2)).mono ?_; rintro e w3 ⟨sv, rfl, hs3, hb3⟩; obtain ⟨a3, c3, a4, c4, rfl, hu3, hf3⟩ := hs3; have HI3 : Hid (IsS w3 (.agg #[.int .i64 b, .slice a3 us.length c3, .slice a4 fs.length c4]) b us fs) := ⟨_, _, rfl, hu3.1, hf3.1⟩; have HX_3 := hide (Below.next (unhide HX_2) hb3 (by first | exact Nat.le_refl _ | (have := unhide HBA; omega))); have Kp_3 := hide (keep_below (unhide Kp_2) hb3); clear HX_2 Kp_2; clear hu3 hf3 hb3 p0 p1 p2 pf0 pf1 pf2 pl)
    have HX_4 := hide ((unhide HX_3).alloc (Nat.le_trans (show w.heap.size ≤ w.heap.size from Nat.le_refl _) (unhide HX_3).size) (.cells #[.int .i64 b, .slice a3 us.length c3, .slice a4 fs.length c4] 24))
    have Kp_4 := hide (keep_alloc (unhide Kp_3) (.cells #[.int .i64 b, .slice a3 us.length c3, .slice a4 fs.length c4] 24))
    have Fx_4 := hide ((unhide HI3).below ((Below.refl _ _).alloc (Nat.le_refl _) (.cells #[.int .i64 b, .slice a3 us.length c3, .slice a4 fs.length c4] 24)))
    have Kx_4 := hide (new_block w3 (.cells #[.int .i64 b, .slice a3 us.length c3, .slice a4 fs.length c4] 24))
    have hlp_x : w.heap.size < w3.heap.size := size_of (unhide Kp_3)
    obtain ⟨T, eT⟩ : ∃ X, w3.heap.size = X := ⟨_, rfl⟩
    obtain ⟨W4, eW4⟩ : ∃ X, w3.alloc (.cells #[.int .i64 b, .slice a3 us.length c3, .slice a4 fs.length c4] 24) = X := ⟨_, rfl⟩
    rw [eT, eW4] at Kx_4; rw [eW4] at HX_4 Kp_4 Fx_4; rw [eT] at hlp_x; rw [eT, eW4]
    clear eT eW4 HX_3 Kp_3 HI3
    obtain ⟨⟨q0, q1, q2⟩, ⟨qf0, qf1, qf2⟩, ql⟩ := block3 (unhide Kx_4)
    go_upto_region 7 with (go_at_call 10; refine (unhide HCK _ _ (unhide Fx_4)).mono ?_; rintro e w5 ⟨he, hb5⟩; obtain rfl : e = .returned (.agg #[.int .i64 wc, .int .i64 wa]) := he; have HX_5 := hide (Below.next (unhide HX_4) hb5 (by first | exact Nat.le_refl _ | (have := unhide HBA; omega))); have Kp_5 := hide (keep_below (unhide Kp_4) hb5); have Kx_5 := hide (keep_below (unhide Kx_4) hb5); have Fx_5 := hide ((unhide Fx_4).below hb5); clear HX_4 Kp_4 Kx_4 Fx_4; clear hb5 q0 q1 q2 qf0 qf1 qf2 ql)
    have HX_6 := hide ((unhide HX_5).alloc (Nat.le_trans (show w.heap.size ≤ w.heap.size from Nat.le_refl _) (unhide HX_5).size) (.cells #[.int .i64 wc, .int .i64 wa] 29))
    have Kp_6 := hide (keep_alloc (unhide Kp_5) (.cells #[.int .i64 wc, .int .i64 wa] 29))
    have Kx_6 := hide (keep_alloc (unhide Kx_5) (.cells #[.int .i64 wc, .int .i64 wa] 29))
    have Fx_6 := hide ((unhide Fx_5).below ((Below.refl _ _).alloc (Nat.le_refl _) (.cells #[.int .i64 wc, .int .i64 wa] 29)))
    have Kc_6 := hide (new_block w5 (.cells #[.int .i64 wc, .int .i64 wa] 29))
    have hlp_c : w.heap.size < w5.heap.size := size_of (unhide Kp_5)
    have hlx_c : T < w5.heap.size := size_of (unhide Kx_5)
    obtain ⟨T2, eT2⟩ : ∃ X, w5.heap.size = X := ⟨_, rfl⟩
    obtain ⟨W6, eW6⟩ : ∃ X, w5.alloc (.cells #[.int .i64 wc, .int .i64 wa] 29) = X := ⟨_, rfl⟩
    rw [eT2, eW6] at Kc_6; rw [eW6] at HX_6 Kp_6 Kx_6 Fx_6; rw [eT2] at hlp_c hlx_c; rw [eT2, eW6]
    clear eT2 eW6 HX_5 Kp_5 Kx_5 Fx_5
    obtain ⟨⟨q0, q1, q2⟩, ⟨qf0, qf1, qf2⟩, ql⟩ := block3 (unhide Kx_6)
    go_upto_region 8 with (go_at_call 11; refine (unhide HTK _ _ (unhide Fx_6)).mono ?_; rintro e w7 ⟨au, nu, cu, af, nf, cf, rfl, hs7, hb7⟩; have HI7 := hide hs7; have HX_7 := hide (Below.next (unhide HX_6) hb7 (by first | exact Nat.le_refl _ | (have := unhide HBA; omega))); have Kp_7 := hide (keep_below (unhide Kp_6) hb7); have Kx_7 := hide (keep_below (unhide Kx_6) hb7); have Kc_7 := hide (keep_below (unhide Kc_6) hb7); have Fx_7 := hide ((unhide Fx_6).below hb7); clear HX_6 Kp_6 Kx_6 Kc_6 Fx_6; clear hs7 hb7 q0 q1 q2 qf0 qf1 qf2 ql)
    obtain ⟨W8, eW8, hBW8, k0_8, k1_8⟩ := two_new w7 (.cells #[.int .i64 b', .slice au nu cu, .slice af nf cf] 24) (.cells #[.int .i64 FC, .int .i64 FA] 29)
    rw [eW8]
    clear eW8
    have hlp_t : w.heap.size < w7.heap.size := size_of (unhide Kp_7)
    have hlx_t : T < w7.heap.size := size_of (unhide Kx_7)
    have hlc_t : T2 < w7.heap.size := size_of (unhide Kc_7)
    (have HX_8 := hide (Below.next (unhide HX_7) hBW8 (by first | exact Nat.le_refl _ | (have := unhide HBA; omega))); have Kp_8 := hide (keep_below (unhide Kp_7) hBW8); have Kx_8 := hide (keep_below (unhide Kx_7) hBW8); have Kc_8 := hide (keep_below (unhide Kc_7) hBW8); have Fx_8 := hide ((unhide Fx_7).below hBW8); have Ft_8 := hide ((unhide HI7).below hBW8); clear HX_7 Kp_7 Kx_7 Kc_7 Fx_7 HI7)
    obtain ⟨T3, eT3⟩ : ∃ X, w7.heap.size = X := ⟨_, rfl⟩
    rw [eT3] at k0_8 k1_8 hlp_t hlx_t hlc_t ⊢
    have Kt_8 := hide k0_8
    have Kf_8 := hide k1_8
    clear eT3 hBW8 k0_8 k1_8
    go_upto_region 9 with (go_at_call 12; refine (unhide HNW _).mono ?_; rintro e w9 ⟨ea, en, ec, eb, em, ed, rfl, hs9, hb9⟩; have HI9 := hide hs9; have HX_9 := hide (Below.next (unhide HX_8) hb9 (by first | exact Nat.le_refl _ | (have := unhide HBA; omega))); have Kp_9 := hide (keep_below (unhide Kp_8) hb9); have Kx_9 := hide (keep_below (unhide Kx_8) hb9); have Kc_9 := hide (keep_below (unhide Kc_8) hb9); have Kt_9 := hide (keep_below (unhide Kt_8) hb9); have Kf_9 := hide (keep_below (unhide Kf_8) hb9); have Fx_9 := hide ((unhide Fx_8).below hb9); have Ft_9 := hide ((unhide Ft_8).below hb9); clear HX_8 Kp_8 Kx_8 Kc_8 Kt_8 Kf_8 Fx_8 Ft_8; clear hs9 hb9)
    obtain ⟨Wa, eWa, hBWa, k0_10, k1_10⟩ := two_new w9 (.cells #[.int .i64 0, .slice ea en ec, .slice eb em ed] 24) (.cells #[.int .i64 3, .int .i64 (-1)] 29)
    rw [eWa]
    clear eWa
    have hlp_e : w.heap.size < w9.heap.size := size_of (unhide Kp_9)
    have hlx_e : T < w9.heap.size := size_of (unhide Kx_9)
    have hlc_e : T2 < w9.heap.size := size_of (unhide Kc_9)
    have hlt_e : T3 < w9.heap.size := size_of (unhide Kt_9)
    have hlf_e : T3 + 1 < w9.heap.size := size_of (unhide Kf_9)
    (have HX_10 := hide (Below.next (unhide HX_9) hBWa (by first | exact Nat.le_refl _ | (have := unhide HBA; omega))); have Kp_10 := hide (keep_below (unhide Kp_9) hBWa); have Kx_10 := hide (keep_below (unhide Kx_9) hBWa); have Kc_10 := hide (keep_below (unhide Kc_9) hBWa); have Kt_10 := hide (keep_below (unhide Kt_9) hBWa); have Kf_10 := hide (keep_below (unhide Kf_9) hBWa); have Fx_10 := hide ((unhide Fx_9).below hBWa); have Ft_10 := hide ((unhide Ft_9).below hBWa); have Fe_10 := hide ((unhide HI9).below hBWa); clear HX_9 Kp_9 Kx_9 Kc_9 Kt_9 Kf_9 Fx_9 Ft_9 HI9)
    obtain ⟨T4, eT4⟩ : ∃ X, w9.heap.size = X := ⟨_, rfl⟩
    rw [eT4] at k0_10 k1_10 hlp_e hlx_e hlc_e hlt_e hlf_e ⊢
    have Ke_10 := hide k0_10
    have Kh_10 := hide k1_10
    clear eT4 hBWa k0_10 k1_10
    have HIT := hide (unhide Ft_10)
    have HCH := hide (Below.refl Wa.heap.size Wa)
    obtain ⟨⟨p0, p1, p2⟩, ⟨pf0, pf1, pf2⟩, pl⟩ := block3 (unhide Kp_10)
    go_upto_region 10 with (go_at_call 13; refine (unhide HSF _ (unhide HX_10)).mono ?_; rintro e wb ⟨he, hbb⟩; obtain rfl : e = .returned (.agg #[.int .i64 wc, .int .i64 wa]) := he; have HX_11 := hide (Below.next (unhide HX_10) hbb (by first | exact Nat.le_refl _ | (have := unhide HBA; omega))); have Kp_11 := hide (keep_below (unhide Kp_10) hbb); have Kx_11 := hide (keep_below (unhide Kx_10) hbb); have Kc_11 := hide (keep_below (unhide Kc_10) hbb); have Kt_11 := hide (keep_below (unhide Kt_10) hbb); have Kf_11 := hide (keep_below (unhide Kf_10) hbb); have Ke_11 := hide (keep_below (unhide Ke_10) hbb); have Kh_11 := hide (keep_below (unhide Kh_10) hbb); have Fx_11 := hide ((unhide Fx_10).below hbb); have Ft_11 := hide ((unhide Ft_10).below hbb); have Fe_11 := hide ((unhide Fe_10).below hbb); have Ct_11 := hide (Below.next (unhide HCH) hbb (Nat.le_refl _)); clear HX_10 Kp_10 Kx_10 Kc_10 Kt_10 Kf_10 Ke_10 Kh_10 Fx_10 Ft_10 Fe_10 HCH; clear hbb p0 p1 p2 pf0 pf1 pf2 pl)
    have hch5 := (unhide Ct_11).size
    have HX_12 := hide ((unhide HX_11).alloc (Nat.le_trans (show w.heap.size ≤ w.heap.size from Nat.le_refl _) (unhide HX_11).size) (.cells #[.int .i64 wc, .int .i64 wa] 29))
    have Kp_12 := hide (keep_alloc (unhide Kp_11) (.cells #[.int .i64 wc, .int .i64 wa] 29))
    have Kx_12 := hide (keep_alloc (unhide Kx_11) (.cells #[.int .i64 wc, .int .i64 wa] 29))
    have Kc_12 := hide (keep_alloc (unhide Kc_11) (.cells #[.int .i64 wc, .int .i64 wa] 29))
    have Kt_12 := hide (keep_alloc (unhide Kt_11) (.cells #[.int .i64 wc, .int .i64 wa] 29))
    have Kf_12 := hide (keep_alloc (unhide Kf_11) (.cells #[.int .i64 wc, .int .i64 wa] 29))
    have Ke_12 := hide (keep_alloc (unhide Ke_11) (.cells #[.int .i64 wc, .int .i64 wa] 29))
    have Kh_12 := hide (keep_alloc (unhide Kh_11) (.cells #[.int .i64 wc, .int .i64 wa] 29))
    have Fx_12 := hide ((unhide Fx_11).below ((Below.refl _ _).alloc (Nat.le_refl _) (.cells #[.int .i64 wc, .int .i64 wa] 29)))
    have Ft_12 := hide ((unhide Ft_11).below ((Below.refl _ _).alloc (Nat.le_refl _) (.cells #[.int .i64 wc, .int .i64 wa] 29)))
    have Fe_12 := hide ((unhide Fe_11).below ((Below.refl _ _).alloc (Nat.le_refl _) (.cells #[.int .i64 wc, .int .i64 wa] 29)))
    have Ct_12 := hide ((unhide Ct_11).alloc (unhide Ct_11).size (.cells #[.int .i64 wc, .int .i64 wa] 29))
    have Kw_12 := hide (new_block wb (.cells #[.int .i64 wc, .int .i64 wa] 29))
    have hlp_w : w.heap.size < wb.heap.size := size_of (unhide Kp_11)
    have hlx_w : T < wb.heap.size := size_of (unhide Kx_11)
    have hlc_w : T2 < wb.heap.size := size_of (unhide Kc_11)
    have hlt_w : T3 < wb.heap.size := size_of (unhide Kt_11)
    have hlf_w : T3 + 1 < wb.heap.size := size_of (unhide Kf_11)
    have hle_w : T4 < wb.heap.size := size_of (unhide Ke_11)
    have hlh_w : T4 + 1 < wb.heap.size := size_of (unhide Kh_11)
    obtain ⟨T5, eT5⟩ : ∃ X, wb.heap.size = X := ⟨_, rfl⟩
    obtain ⟨Wc, eWc⟩ : ∃ X, wb.alloc (.cells #[.int .i64 wc, .int .i64 wa] 29) = X := ⟨_, rfl⟩
    rw [eT5, eWc] at Kw_12; rw [eWc] at HX_12 Kp_12 Kx_12 Kc_12 Kt_12 Kf_12 Ke_12 Kh_12 Fx_12 Ft_12 Fe_12 Ct_12; rw [eT5] at hlp_w hlx_w hlc_w hlt_w hlf_w hle_w hlh_w hch5; rw [eT5, eWc]
    clear eT5 eWc HX_11 Kp_11 Kx_11 Kc_11 Kt_11 Kf_11 Ke_11 Kh_11 Fx_11 Ft_11 Fe_11 Ct_11
    obtain ⟨⟨p0, p1, p2⟩, ⟨pf0, pf1, pf2⟩, pl⟩ := block3 (unhide Kp_12)
    obtain ⟨⟨q0, q1, q2⟩, ⟨qf0, qf1, qf2⟩, ql⟩ := block3 (unhide Kx_12)
    obtain ⟨r0, r1, rf0, rf1, rl⟩ := block2 (unhide Kc_12)
    obtain ⟨y0, y1, yf0, yf1, yl⟩ := block2 (unhide Kw_12)
    have hbt : (wc == wc) = true := by simp
    go_upto_region 12 with (go_at_call 14; refine (sameSpace_same _ _ _ b us fs (unhide Fx_12) ((unhide HI).below (unhide HX_12)) (by have := unhide HVL; omega) (by have := unhide HVL; omega)).mono ?_; rintro e wd ⟨rfl, hbd⟩; have HX_13 := hide (Below.next (unhide HX_12) hbd (by first | exact Nat.le_refl _ | (have := unhide HBA; omega))); have Kp_13 := hide (keep_below (unhide Kp_12) hbd); have Kx_13 := hide (keep_below (unhide Kx_12) hbd); have Kc_13 := hide (keep_below (unhide Kc_12) hbd); have Kt_13 := hide (keep_below (unhide Kt_12) hbd); have Kf_13 := hide (keep_below (unhide Kf_12) hbd); have Ke_13 := hide (keep_below (unhide Ke_12) hbd); have Kh_13 := hide (keep_below (unhide Kh_12) hbd); have Kw_13 := hide (keep_below (unhide Kw_12) hbd); have Fx_13 := hide ((unhide Fx_12).below hbd); have Ft_13 := hide ((unhide Ft_12).below hbd); have Fe_13 := hide ((unhide Fe_12).below hbd); have Ct_13 := hide (Below.next (unhide Ct_12) hbd (Nat.le_refl _)); clear HX_12 Kp_12 Kx_12 Kc_12 Kt_12 Kf_12 Ke_12 Kh_12 Kw_12 Fx_12 Ft_12 Fe_12 Ct_12; clear hbd p0 p1 p2 pf0 pf1 pf2 pl q0 q1 q2 qf0 qf1 qf2 ql r0 r1 rf0 rf1 rl y0 y1 yf0 yf1 yl)
    have hqe : ∀ w, (Op.equalIn 10000 29 (.agg #[.int .i64 3, .int .i64 (-1)]) (.agg #[.int .i64 3, .int .i64 (-1)])).run Try.prog w = .ok true w := fun w => by rw [flt_eq]; rfl
    have HSS : Hid (∀ W, Below wd.heap.size wd W → ((W.cell? ⟨T4 + 1, 0, none⟩ = some (.int .i64 3) ∧ W.cell? ⟨T4 + 1, 1, none⟩ = some (.int .i64 (-1))) ∧ W.cell? ⟨T4, 0, none⟩ = some (.int .i64 0) ∧ W.cell? ⟨T4, 1, none⟩ = some (.slice ea en ec) ∧ W.cell? ⟨T4, 2, none⟩ = some (.slice eb em ed))) := fun W hW => ⟨⟨(block2 (keep_below (unhide Kh_13) hW)).1, (block2 (keep_below (unhide Kh_13) hW)).2.1⟩, (block3 (keep_below (unhide Ke_13) hW)).1⟩
    go_upto_region 13 with fail
    obtain ⟨⟨x0, x1⟩, u0, u1, u2⟩ := unhide HSS _ (Below.refl _ _)
    go_region_held3 (fun W => ((W.cell? ⟨T4 + 1, 0, none⟩ = some (.int .i64 3) ∧ W.cell? ⟨T4 + 1, 1, none⟩ = some (.int .i64 (-1))) ∧ W.cell? ⟨T4, 0, none⟩ = some (.int .i64 0) ∧ W.cell? ⟨T4, 1, none⟩ = some (.slice ea en ec) ∧ W.cell? ⟨T4, 2, none⟩ = some (.slice eb em ed)))
      (first | with_reducible exact unhide HSS _ (Below.refl _ _).drew | with_reducible exact unhide HSS _ (unhide HY5) | with_reducible exact unhide HSS _ (unhide HY6))
      (first
        | (go_at_call 15; refine (f_any _ _ _).mono ?_; rintro e wg ⟨rfl, hbg⟩; have HY5 : Hid (Below wd.heap.size wd wg) := Below.next (Below.refl _ _).drew hbg (Nat.le_refl _); clear hbg)
        | (go_at_call 14; refine (sameSpace_same _ _ _ 0 [] [] (isS_empty (unhide Fe_13)) (zero_s _) (by simp) (by simp)).mono ?_; rintro e wh ⟨rfl, hbh⟩; have HY6 : Hid (Below wd.heap.size wd wh) := Below.next (unhide HY5) hbh (Nat.le_refl _); clear hbh))
    all_goals clear x0 x1 u0 u1 u2
    all_goals try clear HSS
    (have HX_14 := hide (Below.next (unhide HX_13) (unhide HY6) (by first | exact Nat.le_refl _ | (have := unhide HBA; omega))); have Kp_14 := hide (keep_below (unhide Kp_13) (unhide HY6)); have Kx_14 := hide (keep_below (unhide Kx_13) (unhide HY6)); have Kc_14 := hide (keep_below (unhide Kc_13) (unhide HY6)); have Kt_14 := hide (keep_below (unhide Kt_13) (unhide HY6)); have Kf_14 := hide (keep_below (unhide Kf_13) (unhide HY6)); have Ke_14 := hide (keep_below (unhide Ke_13) (unhide HY6)); have Kh_14 := hide (keep_below (unhide Kh_13) (unhide HY6)); have Kw_14 := hide (keep_below (unhide Kw_13) (unhide HY6)); have Ft_14 := hide ((unhide Ft_13).below (unhide HY6)); have Fe_14 := hide ((unhide Fe_13).below (unhide HY6)); have Ct_14 := hide (Below.next (unhide Ct_13) (unhide HY6) (Nat.le_refl _)); clear HX_13 Kp_13 Kx_13 Kc_13 Kt_13 Kf_13 Ke_13 Kh_13 Kw_13 Ft_13 Fe_13 Ct_13)
    go_upto_region 17 with fail
    by_cases hwc : wc = 0
    · have hz : spaceF b us fs = (0, 0) := spaceF_zero (by rw [unhide HS]; exact hwc)
      have hwa : wa = 0 := by have := (unhide HS).symm.trans hz; exact congrArg Prod.snd this
      subst hwc hwa
      have hbe : ((0 : Int) == 0) = true := rfl
      have HZ := hide hz
      have hG := unhide HG
      unfold takeR at hG
      rw [if_neg (by rw [hz]; simp)] at hG
      clear hz
      by_cases hr : z < 1 ∨ 1073741824 < z
      · rw [if_pos hr] at hG
        cases hG
        clear HG HS
        by_cases hlo : z < 1
        · skip
          have hqf : ∀ w, (Op.equalIn 10000 29 (.agg #[.int .i64 3, .int .i64 (-1)]) (.agg #[.int .i64 3, .int .i64 (-1)])).run Try.prog w = .ok true w := fun w => by rw [flt_eq]; rfl
          obtain ⟨y0, y1, yf0, yf1, yl⟩ := block2 (unhide Kw_14)
          go_upto_region 19 with (go_at_call 15; refine (f_any _ _ _).mono ?_; rintro e ws ⟨rfl, hbs⟩; have HX_15 := hide (Below.next (unhide HX_14) hbs (by first | exact Nat.le_refl _ | (have := unhide HBA; omega))); have Kp_15 := hide (keep_below (unhide Kp_14) hbs); have Kx_15 := hide (keep_below (unhide Kx_14) hbs); have Kc_15 := hide (keep_below (unhide Kc_14) hbs); have Kt_15 := hide (keep_below (unhide Kt_14) hbs); have Kf_15 := hide (keep_below (unhide Kf_14) hbs); have Ke_15 := hide (keep_below (unhide Ke_14) hbs); have Kh_15 := hide (keep_below (unhide Kh_14) hbs); have Kw_15 := hide (keep_below (unhide Kw_14) hbs); have Ct_15 := hide (Below.next (unhide Ct_14) hbs (Nat.le_refl _)); clear HX_14 Kp_14 Kx_14 Kc_14 Kt_14 Kf_14 Ke_14 Kh_14 Kw_14 Ct_14; clear hbs y0 y1 yf0 yf1 yl; obtain ⟨y0, y1, yf0, yf1, yl⟩ := block2 (unhide Kw_15))
          clear y0 y1 yf0 yf1 yl
          have HX_16 := hide (put2_below (y0 := .int .i64 3) (y1 := .int .i64 (-1)) (unhide HX_15) (show w.heap.size ≤ T5 by first | omega | (have := unhide HBA; omega)))
          have Kp_16 := hide ((put2_keep (y0 := .int .i64 3) (y1 := .int .i64 (-1)) (show w.heap.size ≠ T5 by omega)).trans (unhide Kp_15))
          have Kx_16 := hide ((put2_keep (y0 := .int .i64 3) (y1 := .int .i64 (-1)) (show T ≠ T5 by omega)).trans (unhide Kx_15))
          have Kc_16 := hide ((put2_keep (y0 := .int .i64 3) (y1 := .int .i64 (-1)) (show T2 ≠ T5 by omega)).trans (unhide Kc_15))
          have Kt_16 := hide ((put2_keep (y0 := .int .i64 3) (y1 := .int .i64 (-1)) (show T3 ≠ T5 by omega)).trans (unhide Kt_15))
          have Kf_16 := hide ((put2_keep (y0 := .int .i64 3) (y1 := .int .i64 (-1)) (show T3 + 1 ≠ T5 by omega)).trans (unhide Kf_15))
          have Ke_16 := hide ((put2_keep (y0 := .int .i64 3) (y1 := .int .i64 (-1)) (show T4 ≠ T5 by omega)).trans (unhide Ke_15))
          have Kh_16 := hide ((put2_keep (y0 := .int .i64 3) (y1 := .int .i64 (-1)) (show T4 + 1 ≠ T5 by omega)).trans (unhide Kh_15))
          have Kw_16 := hide (put2_new (y0 := .int .i64 3) (y1 := .int .i64 (-1)) (unhide Kw_15))
          have Ct_16 := hide (put2_below (y0 := .int .i64 3) (y1 := .int .i64 (-1)) (unhide Ct_15) (show _ ≤ T5 by omega))
          obtain ⟨Wt, eWt⟩ : ∃ X, put2 ws (T5) (.int .i64 3) (.int .i64 (-1)) = X := ⟨_, rfl⟩
          rw [eWt] at HX_16 Kp_16 Kx_16 Kc_16 Kt_16 Kf_16 Ke_16 Kh_16 Kw_16 Ct_16
          have eWt2 : ((ws).setCell ⟨T5, 0, none⟩ (.int .i64 3)).setCell ⟨T5, 1, none⟩ (.int .i64 (-1)) = Wt := eWt
          rw [eWt2]
          clear eWt eWt2 HX_15 Kp_15 Kx_15 Kc_15 Kt_15 Kf_15 Ke_15 Kh_15 Kw_15 Ct_15
          obtain ⟨y0, y1, yf0, yf1, yl⟩ := block2 (unhide Kw_16)
          have hch6 := (unhide Ct_16).size
          go_upto_region 20 with fail
          clear y0 y1 yf0 yf1 yl
          have HX_17 := hide ((unhide HX_16).alloc (Nat.le_trans (show w.heap.size ≤ w.heap.size from Nat.le_refl _) (unhide HX_16).size) (.cells #[.int .i64 0, .slice none 0 0, .slice none 0 0] 24))
          have Kp_17 := hide (keep_alloc (unhide Kp_16) (.cells #[.int .i64 0, .slice none 0 0, .slice none 0 0] 24))
          have Kx_17 := hide (keep_alloc (unhide Kx_16) (.cells #[.int .i64 0, .slice none 0 0, .slice none 0 0] 24))
          have Kc_17 := hide (keep_alloc (unhide Kc_16) (.cells #[.int .i64 0, .slice none 0 0, .slice none 0 0] 24))
          have Kt_17 := hide (keep_alloc (unhide Kt_16) (.cells #[.int .i64 0, .slice none 0 0, .slice none 0 0] 24))
          have Kf_17 := hide (keep_alloc (unhide Kf_16) (.cells #[.int .i64 0, .slice none 0 0, .slice none 0 0] 24))
          have Ke_17 := hide (keep_alloc (unhide Ke_16) (.cells #[.int .i64 0, .slice none 0 0, .slice none 0 0] 24))
          have Kh_17 := hide (keep_alloc (unhide Kh_16) (.cells #[.int .i64 0, .slice none 0 0, .slice none 0 0] 24))
          have Kw_17 := hide (keep_alloc (unhide Kw_16) (.cells #[.int .i64 0, .slice none 0 0, .slice none 0 0] 24))
          have Ct_17 := hide ((unhide Ct_16).alloc (unhide Ct_16).size (.cells #[.int .i64 0, .slice none 0 0, .slice none 0 0] 24))
          have Kv_17 := hide (new_block Wt (.cells #[.int .i64 0, .slice none 0 0, .slice none 0 0] 24))
          have hlp_v : w.heap.size < Wt.heap.size := size_of (unhide Kp_16)
          have hlx_v : T < Wt.heap.size := size_of (unhide Kx_16)
          have hlc_v : T2 < Wt.heap.size := size_of (unhide Kc_16)
          have hlt_v : T3 < Wt.heap.size := size_of (unhide Kt_16)
          have hlf_v : T3 + 1 < Wt.heap.size := size_of (unhide Kf_16)
          have hle_v : T4 < Wt.heap.size := size_of (unhide Ke_16)
          have hlh_v : T4 + 1 < Wt.heap.size := size_of (unhide Kh_16)
          have hlw_v : T5 < Wt.heap.size := size_of (unhide Kw_16)
          obtain ⟨T6, eT6⟩ : ∃ X, Wt.heap.size = X := ⟨_, rfl⟩
          obtain ⟨We, eWe⟩ : ∃ X, Wt.alloc (.cells #[.int .i64 0, .slice none 0 0, .slice none 0 0] 24) = X := ⟨_, rfl⟩
          rw [eT6, eWe] at Kv_17; rw [eWe] at HX_17 Kp_17 Kx_17 Kc_17 Kt_17 Kf_17 Ke_17 Kh_17 Kw_17 Ct_17; rw [eT6] at hlp_v hlx_v hlc_v hlt_v hlf_v hle_v hlh_v hlw_v hch6; rw [eT6, eWe]
          clear eT6 eWe HX_16 Kp_16 Kx_16 Kc_16 Kt_16 Kf_16 Ke_16 Kh_16 Kw_16 Ct_16
          obtain ⟨q0, q1, qf0, qf1, ql⟩ := block2 (unhide Kf_17)
          obtain ⟨y0, y1, yf0, yf1, yl⟩ := block2 (unhide Kw_17)
          obtain ⟨⟨r0, r1, r2⟩, ⟨rf0, rf1, rf2⟩, rl⟩ := block3 (unhide Kt_17)
          go_wp2_with (go_at_call 14; refine (sameSpace_same _ _ _ 0 [] [] (isS_empty (unhide HIT)) (zero_s _) (by simp) (by simp)).mono ?_; rintro e wz ⟨rfl, hbz⟩; have HXZ := hide (Below.next (unhide HX_17) hbz (Nat.le_refl _)); clear hbz)
          go_ret
          exact ⟨rfl, unhide HXZ⟩
        · have hhi : 1073741824 < z := by omega
          have hqf : ∀ w, (Op.equalIn 10000 29 (.agg #[.int .i64 3, .int .i64 (-1)]) (.agg #[.int .i64 3, .int .i64 (-1)])).run Try.prog w = .ok true w := fun w => by rw [flt_eq]; rfl
          obtain ⟨y0, y1, yf0, yf1, yl⟩ := block2 (unhide Kw_14)
          go_upto_region 19 with (go_at_call 15; refine (f_any _ _ _).mono ?_; rintro e ws ⟨rfl, hbs⟩; have HX_15 := hide (Below.next (unhide HX_14) hbs (by first | exact Nat.le_refl _ | (have := unhide HBA; omega))); have Kp_15 := hide (keep_below (unhide Kp_14) hbs); have Kx_15 := hide (keep_below (unhide Kx_14) hbs); have Kc_15 := hide (keep_below (unhide Kc_14) hbs); have Kt_15 := hide (keep_below (unhide Kt_14) hbs); have Kf_15 := hide (keep_below (unhide Kf_14) hbs); have Ke_15 := hide (keep_below (unhide Ke_14) hbs); have Kh_15 := hide (keep_below (unhide Kh_14) hbs); have Kw_15 := hide (keep_below (unhide Kw_14) hbs); have Ct_15 := hide (Below.next (unhide Ct_14) hbs (Nat.le_refl _)); clear HX_14 Kp_14 Kx_14 Kc_14 Kt_14 Kf_14 Ke_14 Kh_14 Kw_14 Ct_14; clear hbs y0 y1 yf0 yf1 yl; obtain ⟨y0, y1, yf0, yf1, yl⟩ := block2 (unhide Kw_15))
          clear y0 y1 yf0 yf1 yl
          have HX_16 := hide (put2_below (y0 := .int .i64 3) (y1 := .int .i64 (-1)) (unhide HX_15) (show w.heap.size ≤ T5 by first | omega | (have := unhide HBA; omega)))
          have Kp_16 := hide ((put2_keep (y0 := .int .i64 3) (y1 := .int .i64 (-1)) (show w.heap.size ≠ T5 by omega)).trans (unhide Kp_15))
          have Kx_16 := hide ((put2_keep (y0 := .int .i64 3) (y1 := .int .i64 (-1)) (show T ≠ T5 by omega)).trans (unhide Kx_15))
          have Kc_16 := hide ((put2_keep (y0 := .int .i64 3) (y1 := .int .i64 (-1)) (show T2 ≠ T5 by omega)).trans (unhide Kc_15))
          have Kt_16 := hide ((put2_keep (y0 := .int .i64 3) (y1 := .int .i64 (-1)) (show T3 ≠ T5 by omega)).trans (unhide Kt_15))
          have Kf_16 := hide ((put2_keep (y0 := .int .i64 3) (y1 := .int .i64 (-1)) (show T3 + 1 ≠ T5 by omega)).trans (unhide Kf_15))
          have Ke_16 := hide ((put2_keep (y0 := .int .i64 3) (y1 := .int .i64 (-1)) (show T4 ≠ T5 by omega)).trans (unhide Ke_15))
          have Kh_16 := hide ((put2_keep (y0 := .int .i64 3) (y1 := .int .i64 (-1)) (show T4 + 1 ≠ T5 by omega)).trans (unhide Kh_15))
          have Kw_16 := hide (put2_new (y0 := .int .i64 3) (y1 := .int .i64 (-1)) (unhide Kw_15))
          have Ct_16 := hide (put2_below (y0 := .int .i64 3) (y1 := .int .i64 (-1)) (unhide Ct_15) (show _ ≤ T5 by omega))
          obtain ⟨Wt, eWt⟩ : ∃ X, put2 ws (T5) (.int .i64 3) (.int .i64 (-1)) = X := ⟨_, rfl⟩
          rw [eWt] at HX_16 Kp_16 Kx_16 Kc_16 Kt_16 Kf_16 Ke_16 Kh_16 Kw_16 Ct_16
          have eWt2 : ((ws).setCell ⟨T5, 0, none⟩ (.int .i64 3)).setCell ⟨T5, 1, none⟩ (.int .i64 (-1)) = Wt := eWt
          rw [eWt2]
          clear eWt eWt2 HX_15 Kp_15 Kx_15 Kc_15 Kt_15 Kf_15 Ke_15 Kh_15 Kw_15 Ct_15
          obtain ⟨y0, y1, yf0, yf1, yl⟩ := block2 (unhide Kw_16)
          have hch6 := (unhide Ct_16).size
          go_upto_region 20 with fail
          clear y0 y1 yf0 yf1 yl
          have HX_17 := hide ((unhide HX_16).alloc (Nat.le_trans (show w.heap.size ≤ w.heap.size from Nat.le_refl _) (unhide HX_16).size) (.cells #[.int .i64 0, .slice none 0 0, .slice none 0 0] 24))
          have Kp_17 := hide (keep_alloc (unhide Kp_16) (.cells #[.int .i64 0, .slice none 0 0, .slice none 0 0] 24))
          have Kx_17 := hide (keep_alloc (unhide Kx_16) (.cells #[.int .i64 0, .slice none 0 0, .slice none 0 0] 24))
          have Kc_17 := hide (keep_alloc (unhide Kc_16) (.cells #[.int .i64 0, .slice none 0 0, .slice none 0 0] 24))
          have Kt_17 := hide (keep_alloc (unhide Kt_16) (.cells #[.int .i64 0, .slice none 0 0, .slice none 0 0] 24))
          have Kf_17 := hide (keep_alloc (unhide Kf_16) (.cells #[.int .i64 0, .slice none 0 0, .slice none 0 0] 24))
          have Ke_17 := hide (keep_alloc (unhide Ke_16) (.cells #[.int .i64 0, .slice none 0 0, .slice none 0 0] 24))
          have Kh_17 := hide (keep_alloc (unhide Kh_16) (.cells #[.int .i64 0, .slice none 0 0, .slice none 0 0] 24))
          have Kw_17 := hide (keep_alloc (unhide Kw_16) (.cells #[.int .i64 0, .slice none 0 0, .slice none 0 0] 24))
          have Ct_17 := hide ((unhide Ct_16).alloc (unhide Ct_16).size (.cells #[.int .i64 0, .slice none 0 0, .slice none 0 0] 24))
          have Kv_17 := hide (new_block Wt (.cells #[.int .i64 0, .slice none 0 0, .slice none 0 0] 24))
          have hlp_v : w.heap.size < Wt.heap.size := size_of (unhide Kp_16)
          have hlx_v : T < Wt.heap.size := size_of (unhide Kx_16)
          have hlc_v : T2 < Wt.heap.size := size_of (unhide Kc_16)
          have hlt_v : T3 < Wt.heap.size := size_of (unhide Kt_16)
          have hlf_v : T3 + 1 < Wt.heap.size := size_of (unhide Kf_16)
          have hle_v : T4 < Wt.heap.size := size_of (unhide Ke_16)
          have hlh_v : T4 + 1 < Wt.heap.size := size_of (unhide Kh_16)
          have hlw_v : T5 < Wt.heap.size := size_of (unhide Kw_16)
          obtain ⟨T6, eT6⟩ : ∃ X, Wt.heap.size = X := ⟨_, rfl⟩
          obtain ⟨We, eWe⟩ : ∃ X, Wt.alloc (.cells #[.int .i64 0, .slice none 0 0, .slice none 0 0] 24) = X := ⟨_, rfl⟩
          rw [eT6, eWe] at Kv_17; rw [eWe] at HX_17 Kp_17 Kx_17 Kc_17 Kt_17 Kf_17 Ke_17 Kh_17 Kw_17 Ct_17; rw [eT6] at hlp_v hlx_v hlc_v hlt_v hlf_v hle_v hlh_v hlw_v hch6; rw [eT6, eWe]
          clear eT6 eWe HX_16 Kp_16 Kx_16 Kc_16 Kt_16 Kf_16 Ke_16 Kh_16 Kw_16 Ct_16
          obtain ⟨q0, q1, qf0, qf1, ql⟩ := block2 (unhide Kf_17)
          obtain ⟨y0, y1, yf0, yf1, yl⟩ := block2 (unhide Kw_17)
          obtain ⟨⟨r0, r1, r2⟩, ⟨rf0, rf1, rf2⟩, rl⟩ := block3 (unhide Kt_17)
          go_wp2_with (go_at_call 14; refine (sameSpace_same _ _ _ 0 [] [] (isS_empty (unhide HIT)) (zero_s _) (by simp) (by simp)).mono ?_; rintro e wz ⟨rfl, hbz⟩; have HXZ := hide (Below.next (unhide HX_17) hbz (Nat.le_refl _)); clear hbz)
          go_ret
          exact ⟨rfl, unhide HXZ⟩
      · rw [if_neg hr] at hG
        have hr1 : ¬ z < 1 := by omega
        have hr2 : ¬ 1073741824 < z := by omega
        have HTO : Hid (∀ W, Below w.heap.size w W → Calls Try.prog 16 #[.agg #[.int .i64 b, .slice a0 n c0, .slice a1 m c1], .int .i64 z] W fun e w' => (leastL (asks z) fs = none ∧ (∃ au cu af cf nu nf, e = .returned (.tuple #[.agg #[.int .i64 b, .slice au nu cu, .slice af nf cf], .int .i64 0, .bool false]) ∧ nu + nf = us.length + fs.length) ∨ ∃ x sv, leastL (asks z) fs = some x ∧ e = .returned (.tuple #[sv, .int .i64 x.1, .bool true]) ∧ NewS W.heap.size w' sv b (takeUs z us x) (takeFs z fs x)) ∧ Below W.heap.size W w') := fun W hW => takenOf_any W _ b us fs z ((unhide HI).below hW) (by have := unhide HVL; omega) (by have := unhide HVL; omega) (unhide HZ) (by omega) (by omega)
        cases hl : leastL (asks z) fs with
        | none =>
          rw [hl] at hG
          cases hG
          obtain ⟨y0, y1, yf0, yf1, yl⟩ := block2 (unhide Kw_14)
          have hch6 := (unhide Ct_14).size
          go_upto_region 20 with fail
          clear y0 y1 yf0 yf1 yl
          have HX_15 := hide ((unhide HX_14).alloc (Nat.le_trans (show w.heap.size ≤ w.heap.size from Nat.le_refl _) (unhide HX_14).size) (.cells #[.int .i64 0, .slice none 0 0, .slice none 0 0] 24))
          have Kp_15 := hide (keep_alloc (unhide Kp_14) (.cells #[.int .i64 0, .slice none 0 0, .slice none 0 0] 24))
          have Kx_15 := hide (keep_alloc (unhide Kx_14) (.cells #[.int .i64 0, .slice none 0 0, .slice none 0 0] 24))
          have Kc_15 := hide (keep_alloc (unhide Kc_14) (.cells #[.int .i64 0, .slice none 0 0, .slice none 0 0] 24))
          have Kt_15 := hide (keep_alloc (unhide Kt_14) (.cells #[.int .i64 0, .slice none 0 0, .slice none 0 0] 24))
          have Kf_15 := hide (keep_alloc (unhide Kf_14) (.cells #[.int .i64 0, .slice none 0 0, .slice none 0 0] 24))
          have Ke_15 := hide (keep_alloc (unhide Ke_14) (.cells #[.int .i64 0, .slice none 0 0, .slice none 0 0] 24))
          have Kh_15 := hide (keep_alloc (unhide Kh_14) (.cells #[.int .i64 0, .slice none 0 0, .slice none 0 0] 24))
          have Kw_15 := hide (keep_alloc (unhide Kw_14) (.cells #[.int .i64 0, .slice none 0 0, .slice none 0 0] 24))
          have Ct_15 := hide ((unhide Ct_14).alloc (unhide Ct_14).size (.cells #[.int .i64 0, .slice none 0 0, .slice none 0 0] 24))
          have Kv_15 := hide (new_block wh (.cells #[.int .i64 0, .slice none 0 0, .slice none 0 0] 24))
          have hlp_v : w.heap.size < wh.heap.size := size_of (unhide Kp_14)
          have hlx_v : T < wh.heap.size := size_of (unhide Kx_14)
          have hlc_v : T2 < wh.heap.size := size_of (unhide Kc_14)
          have hlt_v : T3 < wh.heap.size := size_of (unhide Kt_14)
          have hlf_v : T3 + 1 < wh.heap.size := size_of (unhide Kf_14)
          have hle_v : T4 < wh.heap.size := size_of (unhide Ke_14)
          have hlh_v : T4 + 1 < wh.heap.size := size_of (unhide Kh_14)
          have hlw_v : T5 < wh.heap.size := size_of (unhide Kw_14)
          obtain ⟨T6, eT6⟩ : ∃ X, wh.heap.size = X := ⟨_, rfl⟩
          obtain ⟨We, eWe⟩ : ∃ X, wh.alloc (.cells #[.int .i64 0, .slice none 0 0, .slice none 0 0] 24) = X := ⟨_, rfl⟩
          rw [eT6, eWe] at Kv_15; rw [eWe] at HX_15 Kp_15 Kx_15 Kc_15 Kt_15 Kf_15 Ke_15 Kh_15 Kw_15 Ct_15; rw [eT6] at hlp_v hlx_v hlc_v hlt_v hlf_v hle_v hlh_v hlw_v hch6; rw [eT6, eWe]
          clear eT6 eWe HX_14 Kp_14 Kx_14 Kc_14 Kt_14 Kf_14 Ke_14 Kh_14 Kw_14 Ct_14
          obtain ⟨⟨p0, p1, p2⟩, ⟨pf0, pf1, pf2⟩, pl⟩ := block3 (unhide Kp_15)
          obtain ⟨y0, y1, yf0, yf1, yl⟩ := block2 (unhide Kw_15)
          go_upto_region 23 with (go_at_call 16; refine (unhide HTO _ (unhide HX_15)).mono ?_; rintro e wf ⟨hh, hbf⟩; obtain ⟨ag, cg, ah, ch, ng, nh, rfl, hsm⟩ : ∃ au cu af cf nu nf, e = .returned (.tuple #[.agg #[.int .i64 b, .slice au nu cu, .slice af nf cf], .int .i64 0, .bool false]) ∧ nu + nf = us.length + fs.length := (hh.elim (fun h => h.2) (fun ⟨x, sv, h1, _⟩ => by rw [hl] at h1; cases h1)); have HX_16 := hide (Below.next (unhide HX_15) hbf (by first | exact Nat.le_refl _ | (have := unhide HBA; omega))); have Kp_16 := hide (keep_below (unhide Kp_15) hbf); have Kx_16 := hide (keep_below (unhide Kx_15) hbf); have Kc_16 := hide (keep_below (unhide Kc_15) hbf); have Kt_16 := hide (keep_below (unhide Kt_15) hbf); have Kf_16 := hide (keep_below (unhide Kf_15) hbf); have Ke_16 := hide (keep_below (unhide Ke_15) hbf); have Kh_16 := hide (keep_below (unhide Kh_15) hbf); have Kw_16 := hide (keep_below (unhide Kw_15) hbf); have Kv_16 := hide (keep_below (unhide Kv_15) hbf); have Ct_16 := hide (Below.next (unhide Ct_15) hbf (Nat.le_refl _)); clear HX_15 Kp_15 Kx_15 Kc_15 Kt_15 Kf_15 Ke_15 Kh_15 Kw_15 Kv_15 Ct_15; clear hbf hh hsm p0 p1 p2 pf0 pf1 pf2 pl y0 y1 yf0 yf1 yl)
          have HX_17 := hide ((unhide HX_16).alloc (Nat.le_trans (show w.heap.size ≤ w.heap.size from Nat.le_refl _) (unhide HX_16).size) (.cells #[.int .i64 b, .slice ag ng cg, .slice ah nh ch] 24))
          have Kp_17 := hide (keep_alloc (unhide Kp_16) (.cells #[.int .i64 b, .slice ag ng cg, .slice ah nh ch] 24))
          have Kx_17 := hide (keep_alloc (unhide Kx_16) (.cells #[.int .i64 b, .slice ag ng cg, .slice ah nh ch] 24))
          have Kc_17 := hide (keep_alloc (unhide Kc_16) (.cells #[.int .i64 b, .slice ag ng cg, .slice ah nh ch] 24))
          have Kt_17 := hide (keep_alloc (unhide Kt_16) (.cells #[.int .i64 b, .slice ag ng cg, .slice ah nh ch] 24))
          have Kf_17 := hide (keep_alloc (unhide Kf_16) (.cells #[.int .i64 b, .slice ag ng cg, .slice ah nh ch] 24))
          have Ke_17 := hide (keep_alloc (unhide Ke_16) (.cells #[.int .i64 b, .slice ag ng cg, .slice ah nh ch] 24))
          have Kh_17 := hide (keep_alloc (unhide Kh_16) (.cells #[.int .i64 b, .slice ag ng cg, .slice ah nh ch] 24))
          have Kw_17 := hide (keep_alloc (unhide Kw_16) (.cells #[.int .i64 b, .slice ag ng cg, .slice ah nh ch] 24))
          have Kv_17 := hide (keep_alloc (unhide Kv_16) (.cells #[.int .i64 b, .slice ag ng cg, .slice ah nh ch] 24))
          have Ct_17 := hide ((unhide Ct_16).alloc (unhide Ct_16).size (.cells #[.int .i64 b, .slice ag ng cg, .slice ah nh ch] 24))
          have Ku_17 := hide (new_block wf (.cells #[.int .i64 b, .slice ag ng cg, .slice ah nh ch] 24))
          have hlp_u : w.heap.size < wf.heap.size := size_of (unhide Kp_16)
          have hlx_u : T < wf.heap.size := size_of (unhide Kx_16)
          have hlc_u : T2 < wf.heap.size := size_of (unhide Kc_16)
          have hlt_u : T3 < wf.heap.size := size_of (unhide Kt_16)
          have hlf_u : T3 + 1 < wf.heap.size := size_of (unhide Kf_16)
          have hle_u : T4 < wf.heap.size := size_of (unhide Ke_16)
          have hlh_u : T4 + 1 < wf.heap.size := size_of (unhide Kh_16)
          have hlw_u : T5 < wf.heap.size := size_of (unhide Kw_16)
          have hlv_u : T6 < wf.heap.size := size_of (unhide Kv_16)
          obtain ⟨T7, eT7⟩ : ∃ X, wf.heap.size = X := ⟨_, rfl⟩
          obtain ⟨Wf, eWf⟩ : ∃ X, wf.alloc (.cells #[.int .i64 b, .slice ag ng cg, .slice ah nh ch] 24) = X := ⟨_, rfl⟩
          rw [eT7, eWf] at Ku_17; rw [eWf] at HX_17 Kp_17 Kx_17 Kc_17 Kt_17 Kf_17 Ke_17 Kh_17 Kw_17 Kv_17 Ct_17; rw [eT7] at hlp_u hlx_u hlc_u hlt_u hlf_u hle_u hlh_u hlw_u hlv_u; rw [eT7, eWf]
          clear eT7 eWf HX_16 Kp_16 Kx_16 Kc_16 Kt_16 Kf_16 Ke_16 Kh_16 Kw_16 Kv_16 Ct_16
          clear HG HS
          have hqf : ∀ w, (Op.equalIn 10000 29 (.agg #[.int .i64 6, .int .i64 0]) (.agg #[.int .i64 6, .int .i64 0])).run Try.prog w = .ok true w := fun w => by rw [flt_eq]; rfl
          obtain ⟨y0, y1, yf0, yf1, yl⟩ := block2 (unhide Kw_17)
          go_upto_region 27 with (go_at_call 15; refine (f_any _ _ _).mono ?_; rintro e ws ⟨rfl, hbs⟩; have HX_18 := hide (Below.next (unhide HX_17) hbs (by first | exact Nat.le_refl _ | (have := unhide HBA; omega))); have Kp_18 := hide (keep_below (unhide Kp_17) hbs); have Kx_18 := hide (keep_below (unhide Kx_17) hbs); have Kc_18 := hide (keep_below (unhide Kc_17) hbs); have Kt_18 := hide (keep_below (unhide Kt_17) hbs); have Kf_18 := hide (keep_below (unhide Kf_17) hbs); have Ke_18 := hide (keep_below (unhide Ke_17) hbs); have Kh_18 := hide (keep_below (unhide Kh_17) hbs); have Kw_18 := hide (keep_below (unhide Kw_17) hbs); have Kv_18 := hide (keep_below (unhide Kv_17) hbs); have Ku_18 := hide (keep_below (unhide Ku_17) hbs); have Ct_18 := hide (Below.next (unhide Ct_17) hbs (Nat.le_refl _)); clear HX_17 Kp_17 Kx_17 Kc_17 Kt_17 Kf_17 Ke_17 Kh_17 Kw_17 Kv_17 Ku_17 Ct_17; clear hbs y0 y1 yf0 yf1 yl; obtain ⟨y0, y1, yf0, yf1, yl⟩ := block2 (unhide Kw_18))
          clear y0 y1 yf0 yf1 yl
          have HX_19 := hide (put2_below (y0 := .int .i64 6) (y1 := .int .i64 0) (unhide HX_18) (show w.heap.size ≤ T5 by first | omega | (have := unhide HBA; omega)))
          have Kp_19 := hide ((put2_keep (y0 := .int .i64 6) (y1 := .int .i64 0) (show w.heap.size ≠ T5 by omega)).trans (unhide Kp_18))
          have Kx_19 := hide ((put2_keep (y0 := .int .i64 6) (y1 := .int .i64 0) (show T ≠ T5 by omega)).trans (unhide Kx_18))
          have Kc_19 := hide ((put2_keep (y0 := .int .i64 6) (y1 := .int .i64 0) (show T2 ≠ T5 by omega)).trans (unhide Kc_18))
          have Kt_19 := hide ((put2_keep (y0 := .int .i64 6) (y1 := .int .i64 0) (show T3 ≠ T5 by omega)).trans (unhide Kt_18))
          have Kf_19 := hide ((put2_keep (y0 := .int .i64 6) (y1 := .int .i64 0) (show T3 + 1 ≠ T5 by omega)).trans (unhide Kf_18))
          have Ke_19 := hide ((put2_keep (y0 := .int .i64 6) (y1 := .int .i64 0) (show T4 ≠ T5 by omega)).trans (unhide Ke_18))
          have Kh_19 := hide ((put2_keep (y0 := .int .i64 6) (y1 := .int .i64 0) (show T4 + 1 ≠ T5 by omega)).trans (unhide Kh_18))
          have Kw_19 := hide (put2_new (y0 := .int .i64 6) (y1 := .int .i64 0) (unhide Kw_18))
          have Kv_19 := hide ((put2_keep (y0 := .int .i64 6) (y1 := .int .i64 0) (show T6 ≠ T5 by omega)).trans (unhide Kv_18))
          have Ku_19 := hide ((put2_keep (y0 := .int .i64 6) (y1 := .int .i64 0) (show T7 ≠ T5 by omega)).trans (unhide Ku_18))
          have Ct_19 := hide (put2_below (y0 := .int .i64 6) (y1 := .int .i64 0) (unhide Ct_18) (show _ ≤ T5 by omega))
          obtain ⟨Wt, eWt⟩ : ∃ X, put2 ws (T5) (.int .i64 6) (.int .i64 0) = X := ⟨_, rfl⟩
          rw [eWt] at HX_19 Kp_19 Kx_19 Kc_19 Kt_19 Kf_19 Ke_19 Kh_19 Kw_19 Kv_19 Ku_19 Ct_19
          have eWt2 : ((ws).setCell ⟨T5, 0, none⟩ (.int .i64 6)).setCell ⟨T5, 1, none⟩ (.int .i64 0) = Wt := eWt
          rw [eWt2]
          clear eWt eWt2 HX_18 Kp_18 Kx_18 Kc_18 Kt_18 Kf_18 Ke_18 Kh_18 Kw_18 Kv_18 Ku_18 Ct_18
          obtain ⟨⟨u0, u1, u2⟩, ⟨uf0, uf1, uf2⟩, ul⟩ := block3 (unhide Ku_19)
          obtain ⟨⟨o0, o1, o2⟩, ⟨of0, of1, of2⟩, ol⟩ := block3 (unhide Kv_19)
          go_upto_region 28 with fail
          clear u0 u1 u2 uf0 uf1 uf2 ul o0 o1 o2 of0 of1 of2 ol
          have HX_20 := hide (putL_below (y0 := .int .i64 b) (y1 := .slice ag ng cg) (y2 := .slice ah nh ch) (unhide HX_19) (show w.heap.size ≤ T6 by first | omega | (have := unhide HBA; omega)))
          have Kp_20 := hide ((putL_keep (y0 := .int .i64 b) (y1 := .slice ag ng cg) (y2 := .slice ah nh ch) (show w.heap.size ≠ T6 by omega)).trans (unhide Kp_19))
          have Kx_20 := hide ((putL_keep (y0 := .int .i64 b) (y1 := .slice ag ng cg) (y2 := .slice ah nh ch) (show T ≠ T6 by omega)).trans (unhide Kx_19))
          have Kc_20 := hide ((putL_keep (y0 := .int .i64 b) (y1 := .slice ag ng cg) (y2 := .slice ah nh ch) (show T2 ≠ T6 by omega)).trans (unhide Kc_19))
          have Kt_20 := hide ((putL_keep (y0 := .int .i64 b) (y1 := .slice ag ng cg) (y2 := .slice ah nh ch) (show T3 ≠ T6 by omega)).trans (unhide Kt_19))
          have Kf_20 := hide ((putL_keep (y0 := .int .i64 b) (y1 := .slice ag ng cg) (y2 := .slice ah nh ch) (show T3 + 1 ≠ T6 by omega)).trans (unhide Kf_19))
          have Ke_20 := hide ((putL_keep (y0 := .int .i64 b) (y1 := .slice ag ng cg) (y2 := .slice ah nh ch) (show T4 ≠ T6 by omega)).trans (unhide Ke_19))
          have Kh_20 := hide ((putL_keep (y0 := .int .i64 b) (y1 := .slice ag ng cg) (y2 := .slice ah nh ch) (show T4 + 1 ≠ T6 by omega)).trans (unhide Kh_19))
          have Kw_20 := hide ((putL_keep (y0 := .int .i64 b) (y1 := .slice ag ng cg) (y2 := .slice ah nh ch) (show T5 ≠ T6 by omega)).trans (unhide Kw_19))
          have Kv_20 := hide (putL_new (y0 := .int .i64 b) (y1 := .slice ag ng cg) (y2 := .slice ah nh ch) (unhide Kv_19))
          have Ku_20 := hide ((putL_keep (y0 := .int .i64 b) (y1 := .slice ag ng cg) (y2 := .slice ah nh ch) (show T7 ≠ T6 by omega)).trans (unhide Ku_19))
          have Ct_20 := hide (putL_below (y0 := .int .i64 b) (y1 := .slice ag ng cg) (y2 := .slice ah nh ch) (unhide Ct_19) (show _ ≤ T6 by omega))
          obtain ⟨Wv, eWv⟩ : ∃ X, putL Wt (T6) (.int .i64 b) (.slice ag ng cg) (.slice ah nh ch) = X := ⟨_, rfl⟩
          rw [eWv] at HX_20 Kp_20 Kx_20 Kc_20 Kt_20 Kf_20 Ke_20 Kh_20 Kw_20 Kv_20 Ku_20 Ct_20
          have eWv2 : (((Wt).setCell ⟨T6, 0, none⟩ (.int .i64 b)).setCell ⟨T6, 1, none⟩ (.slice ag ng cg)).setCell ⟨T6, 2, none⟩ (.slice ah nh ch) = Wv := eWv
          rw [eWv2]
          clear eWv eWv2 HX_19 Kp_19 Kx_19 Kc_19 Kt_19 Kf_19 Ke_19 Kh_19 Kw_19 Kv_19 Ku_19 Ct_19
          obtain ⟨q0, q1, qf0, qf1, ql⟩ := block2 (unhide Kf_20)
          obtain ⟨y0, y1, yf0, yf1, yl⟩ := block2 (unhide Kw_20)
          obtain ⟨⟨r0, r1, r2⟩, ⟨rf0, rf1, rf2⟩, rl⟩ := block3 (unhide Kt_20)
          go_wp2_with (go_at_call 14; refine (sameSpace_same _ _ _ 0 [] [] (isS_empty (unhide HIT)) (zero_s _) (by simp) (by simp)).mono ?_; rintro e wz ⟨rfl, hbz⟩; have HXZ := hide (Below.next (unhide HX_20) hbz (Nat.le_refl _)); clear hbz)
          go_ret
          exact ⟨rfl, unhide HXZ⟩
        | some x =>
          rw [hl] at hG
          simp only at hG
          have hlens := take_lens (unhide HZ) hl
          obtain ⟨nA, eA⟩ : ∃ X, (takeUs z us x).length = X := ⟨_, rfl⟩
          obtain ⟨nB, eB⟩ : ∃ X, (takeFs z fs x).length = X := ⟨_, rfl⟩
          rw [eA, eB] at hlens
          have HLA := hide eA; have HLB := hide eB
          have hAB : nA + nB = us.length + fs.length + (halves z x.1 31 x.2).2.length := by omega
          have hq31 := halves_len z x.1 31 x.2
          have hnA : nA ≤ 7000 := by have := unhide HVL; omega
          have hnB : nB ≤ 7000 := by have := unhide HVL; omega
          have hsum : IntKind.i64.wrap ((nA : Int) + (nB : Int)) = (nA : Int) + (nB : Int) := wrapi (by omega) (by omega)
          clear eA eB hlens
          obtain ⟨y0, y1, yf0, yf1, yl⟩ := block2 (unhide Kw_14)
          have hch6 := (unhide Ct_14).size
          go_upto_region 20 with fail
          clear y0 y1 yf0 yf1 yl
          have HX_15 := hide ((unhide HX_14).alloc (Nat.le_trans (show w.heap.size ≤ w.heap.size from Nat.le_refl _) (unhide HX_14).size) (.cells #[.int .i64 0, .slice none 0 0, .slice none 0 0] 24))
          have Kp_15 := hide (keep_alloc (unhide Kp_14) (.cells #[.int .i64 0, .slice none 0 0, .slice none 0 0] 24))
          have Kx_15 := hide (keep_alloc (unhide Kx_14) (.cells #[.int .i64 0, .slice none 0 0, .slice none 0 0] 24))
          have Kc_15 := hide (keep_alloc (unhide Kc_14) (.cells #[.int .i64 0, .slice none 0 0, .slice none 0 0] 24))
          have Kt_15 := hide (keep_alloc (unhide Kt_14) (.cells #[.int .i64 0, .slice none 0 0, .slice none 0 0] 24))
          have Kf_15 := hide (keep_alloc (unhide Kf_14) (.cells #[.int .i64 0, .slice none 0 0, .slice none 0 0] 24))
          have Ke_15 := hide (keep_alloc (unhide Ke_14) (.cells #[.int .i64 0, .slice none 0 0, .slice none 0 0] 24))
          have Kh_15 := hide (keep_alloc (unhide Kh_14) (.cells #[.int .i64 0, .slice none 0 0, .slice none 0 0] 24))
          have Kw_15 := hide (keep_alloc (unhide Kw_14) (.cells #[.int .i64 0, .slice none 0 0, .slice none 0 0] 24))
          have Ct_15 := hide ((unhide Ct_14).alloc (unhide Ct_14).size (.cells #[.int .i64 0, .slice none 0 0, .slice none 0 0] 24))
          have Kv_15 := hide (new_block wh (.cells #[.int .i64 0, .slice none 0 0, .slice none 0 0] 24))
          have hlp_v : w.heap.size < wh.heap.size := size_of (unhide Kp_14)
          have hlx_v : T < wh.heap.size := size_of (unhide Kx_14)
          have hlc_v : T2 < wh.heap.size := size_of (unhide Kc_14)
          have hlt_v : T3 < wh.heap.size := size_of (unhide Kt_14)
          have hlf_v : T3 + 1 < wh.heap.size := size_of (unhide Kf_14)
          have hle_v : T4 < wh.heap.size := size_of (unhide Ke_14)
          have hlh_v : T4 + 1 < wh.heap.size := size_of (unhide Kh_14)
          have hlw_v : T5 < wh.heap.size := size_of (unhide Kw_14)
          obtain ⟨T6, eT6⟩ : ∃ X, wh.heap.size = X := ⟨_, rfl⟩
          obtain ⟨We, eWe⟩ : ∃ X, wh.alloc (.cells #[.int .i64 0, .slice none 0 0, .slice none 0 0] 24) = X := ⟨_, rfl⟩
          rw [eT6, eWe] at Kv_15; rw [eWe] at HX_15 Kp_15 Kx_15 Kc_15 Kt_15 Kf_15 Ke_15 Kh_15 Kw_15 Ct_15; rw [eT6] at hlp_v hlx_v hlc_v hlt_v hlf_v hle_v hlh_v hlw_v hch6; rw [eT6, eWe]
          clear eT6 eWe HX_14 Kp_14 Kx_14 Kc_14 Kt_14 Kf_14 Ke_14 Kh_14 Kw_14 Ct_14
          obtain ⟨⟨p0, p1, p2⟩, ⟨pf0, pf1, pf2⟩, pl⟩ := block3 (unhide Kp_15)
          obtain ⟨y0, y1, yf0, yf1, yl⟩ := block2 (unhide Kw_15)
          have hbv : T6 < We.heap.size := size_of (unhide Kv_15)
          go_upto_region 23 with (go_at_call 16; refine (unhide HTO _ (unhide HX_15)).mono ?_; rintro e wf ⟨hh, hbf⟩; obtain ⟨sv2, rfl, hs2⟩ : ∃ sv, e = .returned (.tuple #[sv, .int .i64 x.1, .bool true]) ∧ NewS We.heap.size wf sv b (takeUs z us x) (takeFs z fs x) := (hh.elim (fun h => by rw [hl] at h; cases h.1) (fun ⟨y, sv, h1, h2, h3⟩ => by rw [hl] at h1; cases h1; exact ⟨sv, h2, h3⟩)); obtain ⟨ag, cg, ah, ch, rfl, hg1, hg2⟩ := hs2; rw [unhide HLA] at hg1; rw [unhide HLB] at hg2; have HS2 : Hid (NewS We.heap.size wf (.agg #[.int .i64 b, .slice ag nA cg, .slice ah nB ch]) b (takeUs z us x) (takeFs z fs x)) := ⟨ag, cg, ah, ch, by rw [unhide HLA, unhide HLB], by rw [unhide HLA]; exact hg1, by rw [unhide HLB]; exact hg2⟩; rw [unhide HLA, unhide HLB]; have HX_16 := hide (Below.next (unhide HX_15) hbf (by first | exact Nat.le_refl _ | (have := unhide HBA; omega))); have Kp_16 := hide (keep_below (unhide Kp_15) hbf); have Kx_16 := hide (keep_below (unhide Kx_15) hbf); have Kc_16 := hide (keep_below (unhide Kc_15) hbf); have Kt_16 := hide (keep_below (unhide Kt_15) hbf); have Kf_16 := hide (keep_below (unhide Kf_15) hbf); have Ke_16 := hide (keep_below (unhide Ke_15) hbf); have Kh_16 := hide (keep_below (unhide Kh_15) hbf); have Kw_16 := hide (keep_below (unhide Kw_15) hbf); have Kv_16 := hide (keep_below (unhide Kv_15) hbf); have Ct_16 := hide (Below.next (unhide Ct_15) hbf (Nat.le_refl _)); clear HX_15 Kp_15 Kx_15 Kc_15 Kt_15 Kf_15 Ke_15 Kh_15 Kw_15 Kv_15 Ct_15; clear hbf hh hg1 hg2 p0 p1 p2 pf0 pf1 pf2 pl y0 y1 yf0 yf1 yl)
          have HS3 := hide ((unhide HS2).below ((Below.refl _ _).alloc (Nat.le_refl _) (.cells #[.int .i64 b, .slice ag nA cg, .slice ah nB ch] 24)))
          have HX_17 := hide ((unhide HX_16).alloc (Nat.le_trans (show w.heap.size ≤ w.heap.size from Nat.le_refl _) (unhide HX_16).size) (.cells #[.int .i64 b, .slice ag nA cg, .slice ah nB ch] 24))
          have Kp_17 := hide (keep_alloc (unhide Kp_16) (.cells #[.int .i64 b, .slice ag nA cg, .slice ah nB ch] 24))
          have Kx_17 := hide (keep_alloc (unhide Kx_16) (.cells #[.int .i64 b, .slice ag nA cg, .slice ah nB ch] 24))
          have Kc_17 := hide (keep_alloc (unhide Kc_16) (.cells #[.int .i64 b, .slice ag nA cg, .slice ah nB ch] 24))
          have Kt_17 := hide (keep_alloc (unhide Kt_16) (.cells #[.int .i64 b, .slice ag nA cg, .slice ah nB ch] 24))
          have Kf_17 := hide (keep_alloc (unhide Kf_16) (.cells #[.int .i64 b, .slice ag nA cg, .slice ah nB ch] 24))
          have Ke_17 := hide (keep_alloc (unhide Ke_16) (.cells #[.int .i64 b, .slice ag nA cg, .slice ah nB ch] 24))
          have Kh_17 := hide (keep_alloc (unhide Kh_16) (.cells #[.int .i64 b, .slice ag nA cg, .slice ah nB ch] 24))
          have Kw_17 := hide (keep_alloc (unhide Kw_16) (.cells #[.int .i64 b, .slice ag nA cg, .slice ah nB ch] 24))
          have Kv_17 := hide (keep_alloc (unhide Kv_16) (.cells #[.int .i64 b, .slice ag nA cg, .slice ah nB ch] 24))
          have Ct_17 := hide ((unhide Ct_16).alloc (unhide Ct_16).size (.cells #[.int .i64 b, .slice ag nA cg, .slice ah nB ch] 24))
          have Ku_17 := hide (new_block wf (.cells #[.int .i64 b, .slice ag nA cg, .slice ah nB ch] 24))
          have hlp_u : w.heap.size < wf.heap.size := size_of (unhide Kp_16)
          have hlx_u : T < wf.heap.size := size_of (unhide Kx_16)
          have hlc_u : T2 < wf.heap.size := size_of (unhide Kc_16)
          have hlt_u : T3 < wf.heap.size := size_of (unhide Kt_16)
          have hlf_u : T3 + 1 < wf.heap.size := size_of (unhide Kf_16)
          have hle_u : T4 < wf.heap.size := size_of (unhide Ke_16)
          have hlh_u : T4 + 1 < wf.heap.size := size_of (unhide Kh_16)
          have hlw_u : T5 < wf.heap.size := size_of (unhide Kw_16)
          have hlv_u : T6 < wf.heap.size := size_of (unhide Kv_16)
          obtain ⟨T7, eT7⟩ : ∃ X, wf.heap.size = X := ⟨_, rfl⟩
          obtain ⟨Wf, eWf⟩ : ∃ X, wf.alloc (.cells #[.int .i64 b, .slice ag nA cg, .slice ah nB ch] 24) = X := ⟨_, rfl⟩
          rw [eWf] at HS3; rw [eT7, eWf] at Ku_17; rw [eWf] at HX_17 Kp_17 Kx_17 Kc_17 Kt_17 Kf_17 Ke_17 Kh_17 Kw_17 Kv_17 Ct_17; rw [eT7] at hlp_u hlx_u hlc_u hlt_u hlf_u hle_u hlh_u hlw_u hlv_u; rw [eT7, eWf]
          clear eT7 eWf HX_16 Kp_16 Kx_16 Kc_16 Kt_16 Kf_16 Ke_16 Kh_16 Kw_16 Kv_16 Ct_16
          by_cases hq5 : 5000 < us.length + fs.length + (halves z x.1 31 x.2).2.length
          · rw [if_pos hq5] at hG
            cases hG
            have hs3 : (5000 : Int) < (nA : Int) + (nB : Int) := by omega
            clear HG HS
            have hqf : ∀ w, (Op.equalIn 10000 29 (.agg #[.int .i64 9, .int .i64 0]) (.agg #[.int .i64 9, .int .i64 0])).run Try.prog w = .ok true w := fun w => by rw [flt_eq]; rfl
            obtain ⟨y0, y1, yf0, yf1, yl⟩ := block2 (unhide Kw_17)
            obtain ⟨⟨u0, u1, u2⟩, ⟨uf0, uf1, uf2⟩, ul⟩ := block3 (unhide Ku_17)
            go_upto_region 27 with (go_at_call 15; refine (f_any _ _ _).mono ?_; rintro e ws ⟨rfl, hbs⟩; have HX_18 := hide (Below.next (unhide HX_17) hbs (by first | exact Nat.le_refl _ | (have := unhide HBA; omega))); have Kp_18 := hide (keep_below (unhide Kp_17) hbs); have Kx_18 := hide (keep_below (unhide Kx_17) hbs); have Kc_18 := hide (keep_below (unhide Kc_17) hbs); have Kt_18 := hide (keep_below (unhide Kt_17) hbs); have Kf_18 := hide (keep_below (unhide Kf_17) hbs); have Ke_18 := hide (keep_below (unhide Ke_17) hbs); have Kh_18 := hide (keep_below (unhide Kh_17) hbs); have Kw_18 := hide (keep_below (unhide Kw_17) hbs); have Kv_18 := hide (keep_below (unhide Kv_17) hbs); have Ku_18 := hide (keep_below (unhide Ku_17) hbs); have Ct_18 := hide (Below.next (unhide Ct_17) hbs (Nat.le_refl _)); clear HX_17 Kp_17 Kx_17 Kc_17 Kt_17 Kf_17 Ke_17 Kh_17 Kw_17 Kv_17 Ku_17 Ct_17; clear hbs y0 y1 yf0 yf1 yl; obtain ⟨y0, y1, yf0, yf1, yl⟩ := block2 (unhide Kw_18))
            clear y0 y1 yf0 yf1 yl u0 u1 u2 uf0 uf1 uf2 ul
            have HX_19 := hide (put2_below (y0 := .int .i64 9) (y1 := .int .i64 0) (unhide HX_18) (show w.heap.size ≤ T5 by first | omega | (have := unhide HBA; omega)))
            have Kp_19 := hide ((put2_keep (y0 := .int .i64 9) (y1 := .int .i64 0) (show w.heap.size ≠ T5 by omega)).trans (unhide Kp_18))
            have Kx_19 := hide ((put2_keep (y0 := .int .i64 9) (y1 := .int .i64 0) (show T ≠ T5 by omega)).trans (unhide Kx_18))
            have Kc_19 := hide ((put2_keep (y0 := .int .i64 9) (y1 := .int .i64 0) (show T2 ≠ T5 by omega)).trans (unhide Kc_18))
            have Kt_19 := hide ((put2_keep (y0 := .int .i64 9) (y1 := .int .i64 0) (show T3 ≠ T5 by omega)).trans (unhide Kt_18))
            have Kf_19 := hide ((put2_keep (y0 := .int .i64 9) (y1 := .int .i64 0) (show T3 + 1 ≠ T5 by omega)).trans (unhide Kf_18))
            have Ke_19 := hide ((put2_keep (y0 := .int .i64 9) (y1 := .int .i64 0) (show T4 ≠ T5 by omega)).trans (unhide Ke_18))
            have Kh_19 := hide ((put2_keep (y0 := .int .i64 9) (y1 := .int .i64 0) (show T4 + 1 ≠ T5 by omega)).trans (unhide Kh_18))
            have Kw_19 := hide (put2_new (y0 := .int .i64 9) (y1 := .int .i64 0) (unhide Kw_18))
            have Kv_19 := hide ((put2_keep (y0 := .int .i64 9) (y1 := .int .i64 0) (show T6 ≠ T5 by omega)).trans (unhide Kv_18))
            have Ku_19 := hide ((put2_keep (y0 := .int .i64 9) (y1 := .int .i64 0) (show T7 ≠ T5 by omega)).trans (unhide Ku_18))
            have Ct_19 := hide (put2_below (y0 := .int .i64 9) (y1 := .int .i64 0) (unhide Ct_18) (show _ ≤ T5 by omega))
            obtain ⟨Wt, eWt⟩ : ∃ X, put2 ws (T5) (.int .i64 9) (.int .i64 0) = X := ⟨_, rfl⟩
            rw [eWt] at HX_19 Kp_19 Kx_19 Kc_19 Kt_19 Kf_19 Ke_19 Kh_19 Kw_19 Kv_19 Ku_19 Ct_19
            have eWt2 : ((ws).setCell ⟨T5, 0, none⟩ (.int .i64 9)).setCell ⟨T5, 1, none⟩ (.int .i64 0) = Wt := eWt
            rw [eWt2]
            clear eWt eWt2 HX_18 Kp_18 Kx_18 Kc_18 Kt_18 Kf_18 Ke_18 Kh_18 Kw_18 Kv_18 Ku_18 Ct_18
            obtain ⟨⟨u0, u1, u2⟩, ⟨uf0, uf1, uf2⟩, ul⟩ := block3 (unhide Ku_19)
            obtain ⟨⟨o0, o1, o2⟩, ⟨of0, of1, of2⟩, ol⟩ := block3 (unhide Kv_19)
            go_upto_region 28 with fail
            clear u0 u1 u2 uf0 uf1 uf2 ul o0 o1 o2 of0 of1 of2 ol
            have HX_20 := hide (putL_below (y0 := .int .i64 b) (y1 := .slice ag nA cg) (y2 := .slice ah nB ch) (unhide HX_19) (show w.heap.size ≤ T6 by first | omega | (have := unhide HBA; omega)))
            have Kp_20 := hide ((putL_keep (y0 := .int .i64 b) (y1 := .slice ag nA cg) (y2 := .slice ah nB ch) (show w.heap.size ≠ T6 by omega)).trans (unhide Kp_19))
            have Kx_20 := hide ((putL_keep (y0 := .int .i64 b) (y1 := .slice ag nA cg) (y2 := .slice ah nB ch) (show T ≠ T6 by omega)).trans (unhide Kx_19))
            have Kc_20 := hide ((putL_keep (y0 := .int .i64 b) (y1 := .slice ag nA cg) (y2 := .slice ah nB ch) (show T2 ≠ T6 by omega)).trans (unhide Kc_19))
            have Kt_20 := hide ((putL_keep (y0 := .int .i64 b) (y1 := .slice ag nA cg) (y2 := .slice ah nB ch) (show T3 ≠ T6 by omega)).trans (unhide Kt_19))
            have Kf_20 := hide ((putL_keep (y0 := .int .i64 b) (y1 := .slice ag nA cg) (y2 := .slice ah nB ch) (show T3 + 1 ≠ T6 by omega)).trans (unhide Kf_19))
            have Ke_20 := hide ((putL_keep (y0 := .int .i64 b) (y1 := .slice ag nA cg) (y2 := .slice ah nB ch) (show T4 ≠ T6 by omega)).trans (unhide Ke_19))
            have Kh_20 := hide ((putL_keep (y0 := .int .i64 b) (y1 := .slice ag nA cg) (y2 := .slice ah nB ch) (show T4 + 1 ≠ T6 by omega)).trans (unhide Kh_19))
            have Kw_20 := hide ((putL_keep (y0 := .int .i64 b) (y1 := .slice ag nA cg) (y2 := .slice ah nB ch) (show T5 ≠ T6 by omega)).trans (unhide Kw_19))
            have Kv_20 := hide (putL_new (y0 := .int .i64 b) (y1 := .slice ag nA cg) (y2 := .slice ah nB ch) (unhide Kv_19))
            have Ku_20 := hide ((putL_keep (y0 := .int .i64 b) (y1 := .slice ag nA cg) (y2 := .slice ah nB ch) (show T7 ≠ T6 by omega)).trans (unhide Ku_19))
            have Ct_20 := hide (putL_below (y0 := .int .i64 b) (y1 := .slice ag nA cg) (y2 := .slice ah nB ch) (unhide Ct_19) (show _ ≤ T6 by omega))
            obtain ⟨Wv, eWv⟩ : ∃ X, putL Wt (T6) (.int .i64 b) (.slice ag nA cg) (.slice ah nB ch) = X := ⟨_, rfl⟩
            rw [eWv] at HX_20 Kp_20 Kx_20 Kc_20 Kt_20 Kf_20 Ke_20 Kh_20 Kw_20 Kv_20 Ku_20 Ct_20
            have eWv2 : (((Wt).setCell ⟨T6, 0, none⟩ (.int .i64 b)).setCell ⟨T6, 1, none⟩ (.slice ag nA cg)).setCell ⟨T6, 2, none⟩ (.slice ah nB ch) = Wv := eWv
            rw [eWv2]
            clear eWv eWv2 HX_19 Kp_19 Kx_19 Kc_19 Kt_19 Kf_19 Ke_19 Kh_19 Kw_19 Kv_19 Ku_19 Ct_19
            obtain ⟨q0, q1, qf0, qf1, ql⟩ := block2 (unhide Kf_20)
            obtain ⟨y0, y1, yf0, yf1, yl⟩ := block2 (unhide Kw_20)
            obtain ⟨⟨r0, r1, r2⟩, ⟨rf0, rf1, rf2⟩, rl⟩ := block3 (unhide Kt_20)
            go_wp2_with (go_at_call 14; refine (sameSpace_same _ _ _ 0 [] [] (isS_empty (unhide HIT)) (zero_s _) (by simp) (by simp)).mono ?_; rintro e wz ⟨rfl, hbz⟩; have HXZ := hide (Below.next (unhide HX_20) hbz (Nat.le_refl _)); clear hbz)
            go_ret
            exact ⟨rfl, unhide HXZ⟩
          · rw [if_neg hq5] at hG
            cases hG
            have hs3 : ¬ (5000 : Int) < (nA : Int) + (nB : Int) := by omega
            have hqf : ∀ w, (Op.equalIn 10000 29 (.agg #[.int .i64 0, .int .i64 0]) (.agg #[.int .i64 0, .int .i64 0])).run Try.prog w = .ok true w := fun w => by rw [flt_eq]; rfl
            clear HG HS
            obtain ⟨⟨u0, u1, u2⟩, ⟨uf0, uf1, uf2⟩, ul⟩ := block3 (unhide Ku_17)
            obtain ⟨⟨o0, o1, o2⟩, ⟨of0, of1, of2⟩, ol⟩ := block3 (unhide Kv_17)
            go_upto_region 28 with fail
            clear u0 u1 u2 uf0 uf1 uf2 ul o0 o1 o2 of0 of1 of2 ol
            have HS4 := hide ((unhide HS3).putL (y0 := .int .i64 b) (y1 := .slice ag nA cg) (y2 := .slice ah nB ch) hbv)
            have HX_18 := hide (putL_below (y0 := .int .i64 b) (y1 := .slice ag nA cg) (y2 := .slice ah nB ch) (unhide HX_17) (show w.heap.size ≤ T6 by first | omega | (have := unhide HBA; omega)))
            have Kp_18 := hide ((putL_keep (y0 := .int .i64 b) (y1 := .slice ag nA cg) (y2 := .slice ah nB ch) (show w.heap.size ≠ T6 by omega)).trans (unhide Kp_17))
            have Kx_18 := hide ((putL_keep (y0 := .int .i64 b) (y1 := .slice ag nA cg) (y2 := .slice ah nB ch) (show T ≠ T6 by omega)).trans (unhide Kx_17))
            have Kc_18 := hide ((putL_keep (y0 := .int .i64 b) (y1 := .slice ag nA cg) (y2 := .slice ah nB ch) (show T2 ≠ T6 by omega)).trans (unhide Kc_17))
            have Kt_18 := hide ((putL_keep (y0 := .int .i64 b) (y1 := .slice ag nA cg) (y2 := .slice ah nB ch) (show T3 ≠ T6 by omega)).trans (unhide Kt_17))
            have Kf_18 := hide ((putL_keep (y0 := .int .i64 b) (y1 := .slice ag nA cg) (y2 := .slice ah nB ch) (show T3 + 1 ≠ T6 by omega)).trans (unhide Kf_17))
            have Ke_18 := hide ((putL_keep (y0 := .int .i64 b) (y1 := .slice ag nA cg) (y2 := .slice ah nB ch) (show T4 ≠ T6 by omega)).trans (unhide Ke_17))
            have Kh_18 := hide ((putL_keep (y0 := .int .i64 b) (y1 := .slice ag nA cg) (y2 := .slice ah nB ch) (show T4 + 1 ≠ T6 by omega)).trans (unhide Kh_17))
            have Kw_18 := hide ((putL_keep (y0 := .int .i64 b) (y1 := .slice ag nA cg) (y2 := .slice ah nB ch) (show T5 ≠ T6 by omega)).trans (unhide Kw_17))
            have Kv_18 := hide (putL_new (y0 := .int .i64 b) (y1 := .slice ag nA cg) (y2 := .slice ah nB ch) (unhide Kv_17))
            have Ku_18 := hide ((putL_keep (y0 := .int .i64 b) (y1 := .slice ag nA cg) (y2 := .slice ah nB ch) (show T7 ≠ T6 by omega)).trans (unhide Ku_17))
            have Ct_18 := hide (putL_below (y0 := .int .i64 b) (y1 := .slice ag nA cg) (y2 := .slice ah nB ch) (unhide Ct_17) (show _ ≤ T6 by omega))
            obtain ⟨Wg, eWg⟩ : ∃ X, putL Wf (T6) (.int .i64 b) (.slice ag nA cg) (.slice ah nB ch) = X := ⟨_, rfl⟩
            rw [eWg] at HS4 HX_18 Kp_18 Kx_18 Kc_18 Kt_18 Kf_18 Ke_18 Kh_18 Kw_18 Kv_18 Ku_18 Ct_18
            have eWg2 : (((Wf).setCell ⟨T6, 0, none⟩ (.int .i64 b)).setCell ⟨T6, 1, none⟩ (.slice ag nA cg)).setCell ⟨T6, 2, none⟩ (.slice ah nB ch) = Wg := eWg
            rw [eWg2]
            clear eWg eWg2 HX_17 Kp_17 Kx_17 Kc_17 Kt_17 Kf_17 Ke_17 Kh_17 Kw_17 Kv_17 Ku_17 Ct_17
            obtain ⟨q0, q1, qf0, qf1, ql⟩ := block2 (unhide Kf_18)
            obtain ⟨y0, y1, yf0, yf1, yl⟩ := block2 (unhide Kw_18)
            obtain ⟨⟨r0, r1, r2⟩, ⟨rf0, rf1, rf2⟩, rl⟩ := block3 (unhide Kt_18)
            obtain ⟨⟨o0, o1, o2⟩, ⟨of0, of1, of2⟩, ol⟩ := block3 (unhide Kv_18)
            have hxx : (x.1 == x.1) = true := by simp
            go_wp2_with (go_at_call 14; refine (sameSpace_same _ _ _ b (takeUs z us x) (takeFs z fs x) ((unhide HIT).below (unhide Ct_18)) (unhide HS4).s (by rw [unhide HLA]; omega) (by rw [unhide HLB]; omega)).mono ?_; rintro e wz ⟨rfl, hbz⟩; have HXZ := hide (Below.next (unhide HX_18) hbz (Nat.le_refl _)); clear hbz)
            go_ret
            exact ⟨rfl, unhide HXZ⟩
    · have hG := unhide HG
      unfold takeR at hG
      rw [if_pos (by rw [unhide HS]; exact hwc), unhide HS] at hG
      cases hG
      have hbe : (FC == 0) = false := by simpa using hwc
      have hbn : (FC != 0) = true := by simpa using hwc
      clear HG HS
      obtain ⟨y0, y1, yf0, yf1, yl⟩ := block2 (unhide Kw_14)
      have hch6 := (unhide Ct_14).size
      go_upto_region 20 with fail
      clear y0 y1 yf0 yf1 yl
      have HX_15 := hide ((unhide HX_14).alloc (Nat.le_trans (show w.heap.size ≤ w.heap.size from Nat.le_refl _) (unhide HX_14).size) (.cells #[.int .i64 0, .slice none 0 0, .slice none 0 0] 24))
      have Kp_15 := hide (keep_alloc (unhide Kp_14) (.cells #[.int .i64 0, .slice none 0 0, .slice none 0 0] 24))
      have Kx_15 := hide (keep_alloc (unhide Kx_14) (.cells #[.int .i64 0, .slice none 0 0, .slice none 0 0] 24))
      have Kc_15 := hide (keep_alloc (unhide Kc_14) (.cells #[.int .i64 0, .slice none 0 0, .slice none 0 0] 24))
      have Kt_15 := hide (keep_alloc (unhide Kt_14) (.cells #[.int .i64 0, .slice none 0 0, .slice none 0 0] 24))
      have Kf_15 := hide (keep_alloc (unhide Kf_14) (.cells #[.int .i64 0, .slice none 0 0, .slice none 0 0] 24))
      have Ke_15 := hide (keep_alloc (unhide Ke_14) (.cells #[.int .i64 0, .slice none 0 0, .slice none 0 0] 24))
      have Kh_15 := hide (keep_alloc (unhide Kh_14) (.cells #[.int .i64 0, .slice none 0 0, .slice none 0 0] 24))
      have Kw_15 := hide (keep_alloc (unhide Kw_14) (.cells #[.int .i64 0, .slice none 0 0, .slice none 0 0] 24))
      have Ct_15 := hide ((unhide Ct_14).alloc (unhide Ct_14).size (.cells #[.int .i64 0, .slice none 0 0, .slice none 0 0] 24))
      have Kv_15 := hide (new_block wh (.cells #[.int .i64 0, .slice none 0 0, .slice none 0 0] 24))
      have hlp_v : w.heap.size < wh.heap.size := size_of (unhide Kp_14)
      have hlx_v : T < wh.heap.size := size_of (unhide Kx_14)
      have hlc_v : T2 < wh.heap.size := size_of (unhide Kc_14)
      have hlt_v : T3 < wh.heap.size := size_of (unhide Kt_14)
      have hlf_v : T3 + 1 < wh.heap.size := size_of (unhide Kf_14)
      have hle_v : T4 < wh.heap.size := size_of (unhide Ke_14)
      have hlh_v : T4 + 1 < wh.heap.size := size_of (unhide Kh_14)
      have hlw_v : T5 < wh.heap.size := size_of (unhide Kw_14)
      obtain ⟨T6, eT6⟩ : ∃ X, wh.heap.size = X := ⟨_, rfl⟩
      obtain ⟨We, eWe⟩ : ∃ X, wh.alloc (.cells #[.int .i64 0, .slice none 0 0, .slice none 0 0] 24) = X := ⟨_, rfl⟩
      rw [eT6, eWe] at Kv_15; rw [eWe] at HX_15 Kp_15 Kx_15 Kc_15 Kt_15 Kf_15 Ke_15 Kh_15 Kw_15 Ct_15; rw [eT6] at hlp_v hlx_v hlc_v hlt_v hlf_v hle_v hlh_v hlw_v hch6; rw [eT6, eWe]
      clear eT6 eWe HX_14 Kp_14 Kx_14 Kc_14 Kt_14 Kf_14 Ke_14 Kh_14 Kw_14 Ct_14
      obtain ⟨q0, q1, qf0, qf1, ql⟩ := block2 (unhide Kf_15)
      obtain ⟨y0, y1, yf0, yf1, yl⟩ := block2 (unhide Kw_15)
      obtain ⟨⟨r0, r1, r2⟩, ⟨rf0, rf1, rf2⟩, rl⟩ := block3 (unhide Kt_15)
      go_wp2_with (go_at_call 14; refine (sameSpace_same _ _ _ 0 [] [] (isS_empty (unhide HIT)) (zero_s _) (by simp) (by simp)).mono ?_; rintro e wz ⟨rfl, hbz⟩; have HXZ := hide (Below.next (unhide HX_15) hbz (Nat.le_refl _)); clear hbz)
      go_ret
      exact ⟨rfl, unhide HXZ⟩

set_option maxRecDepth 100000 in
set_option maxHeartbeats 4000000 in
theorem takes_hi (w : World) (v : Value) (b : Int) (us fs : List Bl) (z bits : Int) (h : IsS w v b us fs) (hn : us.length ≤ 1000000000000000) (hm : fs.length ≤ 1000000000000000) (hb1 : Bnd us) (hb2 : Bnd fs) (hbb : 30 < bits) :
    Calls Try.prog 3 #[v, .int .i64 z, .int .i64 bits] w fun e w' => e = .returned (.bool true) ∧ Below w.heap.size w w' := by
  have HV := hide (fun W (hW : Below w.heap.size w W) => vastSpace_any W v b us fs (h.below hW) hn hm)
  have HBG := hide (fun W => begun_any W)
  obtain ⟨VST, eVST⟩ : ∃ X, decide (6000 < us.length + fs.length) = X := ⟨_, rfl⟩
  rw [eVST] at HV
  have HVS := hide eVST
  have HI := hide h; have HB1' := hide hb1; have HB2' := hide hb2
  obtain ⟨a0, c0, a1, c1, rfl, hu, hf⟩ := h.form
  obtain ⟨n, en⟩ : ∃ n, us.length = n := ⟨_, rfl⟩
  obtain ⟨m, em⟩ : ∃ m, fs.length = m := ⟨_, rfl⟩
  rw [en, em] at HV HI ⊢
  have HNU := hide en; have HNF := hide em
  have HX := hide ((Below.refl w.heap.size w).alloc (Nat.le_refl _) (.cells #[.int .i64 b, .slice a0 n c0, .slice a1 m c1] 24))
  have HP := hide (new_block w (.cells #[.int .i64 b, .slice a0 n c0, .slice a1 m c1] 24))
  obtain ⟨W0, e0⟩ : ∃ W, w.alloc (.cells #[.int .i64 b, .slice a0 n c0, .slice a1 m c1] 24) = W := ⟨_, rfl⟩
  rw [e0] at HX HP
  have HE := hide e0
  clear h hu hf en em e0 hb1 hb2 eVST hn hm
  go_enter Try.func3, Try.ntmps3
  go_upto_region 1 with fail
  rw [unhide HE]
  clear HE
  go_upto_region 3 with (go_at_call 7; refine (unhide HBG _).mono ?_; rintro e w1 ⟨rfl, hb1⟩; have HX_1 := hide (Below.next (unhide HX) hb1 (by first | exact Nat.le_refl _ | (have := unhide HBA; omega))); have Kp_1 := hide (keep_below (unhide HP) hb1); clear HX HP; clear hb1)
  obtain ⟨⟨p0, p1, p2⟩, ⟨pf0, pf1, pf2⟩, pl⟩ := block3 (unhide Kp_1)
  cases VST with
  | true =>
    go_wp2_with (go_at_call 8; refine (unhide HV _ (unhide HX_1)).mono ?_; rintro e w2 ⟨rfl, hb2⟩; have HX2 := hide (Below.next (unhide HX_1) hb2 (Nat.le_refl _)); clear hb2)
    go_ret
    exact ⟨rfl, unhide HX2⟩
  | false =>
    have hv : us.length + fs.length ≤ 6000 := by have := of_decide_eq_false (unhide HVS); omega
    have HVL := hide hv
    have hn : n ≤ 6000 := by have := unhide HNU; omega
    have hm : m ≤ 6000 := by have := unhide HNF; omega
    have HOW : Hid (∀ W, Below w.heap.size w W → Calls Try.prog 9 #[.agg #[.int .i64 b, .slice a0 n c0, .slice a1 m c1]] W fun e w' => ∃ sv, e = .returned sv ∧ NewS W.heap.size w' sv b us fs ∧ Below W.heap.size W w') := fun W hW => ownSpace_any W _ b us fs ((unhide HI).below hW) (by omega) (by omega)
    have HSF : Hid (∀ W, Below w.heap.size w W → Calls Try.prog 13 #[.agg #[.int .i64 b, .slice a0 n c0, .slice a1 m c1]] W fun e w' => e = .returned (faultV (spaceF b us fs)) ∧ Below W.heap.size W w') := fun W hW => refFault_any W _ b us fs ((unhide HI).below hW) (by omega) (by omega)
    have HCK : Hid (∀ W sv, IsS W sv b us fs → Calls Try.prog 10 #[sv] W fun e w' => e = .returned (faultV (spaceF b us fs)) ∧ Below W.heap.size W w') := fun W sv hs => check_any W sv b us fs hs (by omega) (by omega) (unhide HB1') (unhide HB2')
    have HTK : Hid (∀ W sv, IsS W sv b us fs → Calls Try.prog 11 #[sv, .int .i64 z] W fun e w' => ∃ au nu cu af nf cf, e = .returned (.tuple #[.agg #[.int .i64 (takeR b us fs z).2.2.1, .slice au nu cu, .slice af nf cf], .int .i64 (takeR b us fs z).2.1, .agg #[.int .i64 (takeR b us fs z).1.1, .int .i64 (takeR b us fs z).1.2]]) ∧ IsS w' (.agg #[.int .i64 (takeR b us fs z).2.2.1, .slice au nu cu, .slice af nf cf]) (takeR b us fs z).2.2.1 (takeR b us fs z).2.2.2.1 (takeR b us fs z).2.2.2.2 ∧ Below W.heap.size W w') := fun W sv hs => take_any W sv b us fs z hs (by omega) (by omega) (unhide HB1') (unhide HB2')
    have hbits : bits < 0 ∨ 30 < bits := Or.inr hbb
    have HNW : Hid (∀ W, Calls Try.prog 12 #[.int .i64 bits] W fun e w' => ∃ ea en ec eb em ed, e = .returned (.tuple #[.agg #[.int .i64 0, .slice ea en ec, .slice eb em ed], .agg #[.int .i64 3, .int .i64 (-1)]]) ∧ IsS w' (.agg #[.int .i64 0, .slice ea en ec, .slice eb em ed]) 0 [] [] ∧ Below W.heap.size W w') := fun W => (new_bad W bits hbits).mono fun e w' ⟨h1, h2⟩ => ⟨none, 0, 0, none, 0, 0, h1, zero_s w', h2⟩
    obtain ⟨⟨⟨FC, FA⟩, AT, b', us', fs'⟩, eG⟩ : ∃ G, takeR b us fs z = G := ⟨_, rfl⟩
    rw [eG] at HTK
    simp only at HTK
    have HG := hide eG
    obtain ⟨⟨wc, wa⟩, eS⟩ : ∃ S, spaceF b us fs = S := ⟨_, rfl⟩
    rw [eS] at HSF HCK
    have HS := hide eS
    have hqw : ∀ w, (Op.equalIn 10000 29 (.agg #[.int .i64 wc, .int .i64 wa]) (.agg #[.int .i64 wc, .int .i64 wa])).run Try.prog w = .ok true w := fun w => by rw [flt_eq]; simp
    clear eG eS HB1' HB2' HVS HBG hv
    go_upto_region 5 with (go_at_call 8; refine (unhide HV _ (unhide HX_1)).mono ?_; rintro e w2 ⟨rfl, hb2⟩; have HX_2 := hide (Below.next (unhide HX_1) hb2 (by first | exact Nat.le_refl _ | (have := unhide HBA; omega))); have Kp_2 := hide (keep_below (unhide Kp_1) hb2); clear HX_1 Kp_1; clear hb2 HV p0 p1 p2 pf0 pf1 pf2 pl)
    obtain ⟨⟨p0, p1, p2⟩, ⟨pf0, pf1, pf2⟩, pl⟩ := block3 (unhide Kp_2)
    go_upto_region 6 with (go_at_call 9; refine (unhide HOW _ (unhide HX_2)).mono ?_; rintro e w3 ⟨sv, rfl, hs3, hb3⟩; obtain ⟨a3, c3, a4, c4, rfl, hu3, hf3⟩ := hs3; have HI3 : Hid (IsS w3 (.agg #[.int .i64 b, .slice a3 us.length c3, .slice a4 fs.length c4]) b us fs) := ⟨_, _, rfl, hu3.1, hf3.1⟩; have HX_3 := hide (Below.next (unhide HX_2) hb3 (by first | exact Nat.le_refl _ | (have := unhide HBA; omega))); have Kp_3 := hide (keep_below (unhide Kp_2) hb3); clear HX_2 Kp_2; clear hu3 hf3 hb3 p0 p1 p2 pf0 pf1 pf2 pl)
    have HX_4 := hide ((unhide HX_3).alloc (Nat.le_trans (show w.heap.size ≤ w.heap.size from Nat.le_refl _) (unhide HX_3).size) (.cells #[.int .i64 b, .slice a3 us.length c3, .slice a4 fs.length c4] 24))
    have Kp_4 := hide (keep_alloc (unhide Kp_3) (.cells #[.int .i64 b, .slice a3 us.length c3, .slice a4 fs.length c4] 24))
    have Fx_4 := hide ((unhide HI3).below ((Below.refl _ _).alloc (Nat.le_refl _) (.cells #[.int .i64 b, .slice a3 us.length c3, .slice a4 fs.length c4] 24)))
    have Kx_4 := hide (new_block w3 (.cells #[.int .i64 b, .slice a3 us.length c3, .slice a4 fs.length c4] 24))
    have hlp_x : w.heap.size < w3.heap.size := size_of (unhide Kp_3)
    obtain ⟨T, eT⟩ : ∃ X, w3.heap.size = X := ⟨_, rfl⟩
    obtain ⟨W4, eW4⟩ : ∃ X, w3.alloc (.cells #[.int .i64 b, .slice a3 us.length c3, .slice a4 fs.length c4] 24) = X := ⟨_, rfl⟩
    rw [eT, eW4] at Kx_4; rw [eW4] at HX_4 Kp_4 Fx_4; rw [eT] at hlp_x; rw [eT, eW4]
    clear eT eW4 HX_3 Kp_3 HI3
    obtain ⟨⟨q0, q1, q2⟩, ⟨qf0, qf1, qf2⟩, ql⟩ := block3 (unhide Kx_4)
    go_upto_region 7 with (go_at_call 10; refine (unhide HCK _ _ (unhide Fx_4)).mono ?_; rintro e w5 ⟨he, hb5⟩; obtain rfl : e = .returned (.agg #[.int .i64 wc, .int .i64 wa]) := he; have HX_5 := hide (Below.next (unhide HX_4) hb5 (by first | exact Nat.le_refl _ | (have := unhide HBA; omega))); have Kp_5 := hide (keep_below (unhide Kp_4) hb5); have Kx_5 := hide (keep_below (unhide Kx_4) hb5); have Fx_5 := hide ((unhide Fx_4).below hb5); clear HX_4 Kp_4 Kx_4 Fx_4; clear hb5 q0 q1 q2 qf0 qf1 qf2 ql)
    have HX_6 := hide ((unhide HX_5).alloc (Nat.le_trans (show w.heap.size ≤ w.heap.size from Nat.le_refl _) (unhide HX_5).size) (.cells #[.int .i64 wc, .int .i64 wa] 29))
    have Kp_6 := hide (keep_alloc (unhide Kp_5) (.cells #[.int .i64 wc, .int .i64 wa] 29))
    have Kx_6 := hide (keep_alloc (unhide Kx_5) (.cells #[.int .i64 wc, .int .i64 wa] 29))
    have Fx_6 := hide ((unhide Fx_5).below ((Below.refl _ _).alloc (Nat.le_refl _) (.cells #[.int .i64 wc, .int .i64 wa] 29)))
    have Kc_6 := hide (new_block w5 (.cells #[.int .i64 wc, .int .i64 wa] 29))
    have hlp_c : w.heap.size < w5.heap.size := size_of (unhide Kp_5)
    have hlx_c : T < w5.heap.size := size_of (unhide Kx_5)
    obtain ⟨T2, eT2⟩ : ∃ X, w5.heap.size = X := ⟨_, rfl⟩
    obtain ⟨W6, eW6⟩ : ∃ X, w5.alloc (.cells #[.int .i64 wc, .int .i64 wa] 29) = X := ⟨_, rfl⟩
    rw [eT2, eW6] at Kc_6; rw [eW6] at HX_6 Kp_6 Kx_6 Fx_6; rw [eT2] at hlp_c hlx_c; rw [eT2, eW6]
    clear eT2 eW6 HX_5 Kp_5 Kx_5 Fx_5
    obtain ⟨⟨q0, q1, q2⟩, ⟨qf0, qf1, qf2⟩, ql⟩ := block3 (unhide Kx_6)
    go_upto_region 8 with (go_at_call 11; refine (unhide HTK _ _ (unhide Fx_6)).mono ?_; rintro e w7 ⟨au, nu, cu, af, nf, cf, rfl, hs7, hb7⟩; have HI7 := hide hs7; have HX_7 := hide (Below.next (unhide HX_6) hb7 (by first | exact Nat.le_refl _ | (have := unhide HBA; omega))); have Kp_7 := hide (keep_below (unhide Kp_6) hb7); have Kx_7 := hide (keep_below (unhide Kx_6) hb7); have Kc_7 := hide (keep_below (unhide Kc_6) hb7); have Fx_7 := hide ((unhide Fx_6).below hb7); clear HX_6 Kp_6 Kx_6 Kc_6 Fx_6; clear hs7 hb7 q0 q1 q2 qf0 qf1 qf2 ql)
    obtain ⟨W8, eW8, hBW8, k0_8, k1_8⟩ := two_new w7 (.cells #[.int .i64 b', .slice au nu cu, .slice af nf cf] 24) (.cells #[.int .i64 FC, .int .i64 FA] 29)
    rw [eW8]
    clear eW8
    have hlp_t : w.heap.size < w7.heap.size := size_of (unhide Kp_7)
    have hlx_t : T < w7.heap.size := size_of (unhide Kx_7)
    have hlc_t : T2 < w7.heap.size := size_of (unhide Kc_7)
    (have HX_8 := hide (Below.next (unhide HX_7) hBW8 (by first | exact Nat.le_refl _ | (have := unhide HBA; omega))); have Kp_8 := hide (keep_below (unhide Kp_7) hBW8); have Kx_8 := hide (keep_below (unhide Kx_7) hBW8); have Kc_8 := hide (keep_below (unhide Kc_7) hBW8); have Fx_8 := hide ((unhide Fx_7).below hBW8); have Ft_8 := hide ((unhide HI7).below hBW8); clear HX_7 Kp_7 Kx_7 Kc_7 Fx_7 HI7)
    obtain ⟨T3, eT3⟩ : ∃ X, w7.heap.size = X := ⟨_, rfl⟩
    rw [eT3] at k0_8 k1_8 hlp_t hlx_t hlc_t ⊢
    have Kt_8 := hide k0_8
    have Kf_8 := hide k1_8
    clear eT3 hBW8 k0_8 k1_8
    go_upto_region 9 with (go_at_call 12; refine (unhide HNW _).mono ?_; rintro e w9 ⟨ea, en, ec, eb, em, ed, rfl, hs9, hb9⟩; have HI9 := hide hs9; have HX_9 := hide (Below.next (unhide HX_8) hb9 (by first | exact Nat.le_refl _ | (have := unhide HBA; omega))); have Kp_9 := hide (keep_below (unhide Kp_8) hb9); have Kx_9 := hide (keep_below (unhide Kx_8) hb9); have Kc_9 := hide (keep_below (unhide Kc_8) hb9); have Kt_9 := hide (keep_below (unhide Kt_8) hb9); have Kf_9 := hide (keep_below (unhide Kf_8) hb9); have Fx_9 := hide ((unhide Fx_8).below hb9); have Ft_9 := hide ((unhide Ft_8).below hb9); clear HX_8 Kp_8 Kx_8 Kc_8 Kt_8 Kf_8 Fx_8 Ft_8; clear hs9 hb9)
    obtain ⟨Wa, eWa, hBWa, k0_10, k1_10⟩ := two_new w9 (.cells #[.int .i64 0, .slice ea en ec, .slice eb em ed] 24) (.cells #[.int .i64 3, .int .i64 (-1)] 29)
    rw [eWa]
    clear eWa
    have hlp_e : w.heap.size < w9.heap.size := size_of (unhide Kp_9)
    have hlx_e : T < w9.heap.size := size_of (unhide Kx_9)
    have hlc_e : T2 < w9.heap.size := size_of (unhide Kc_9)
    have hlt_e : T3 < w9.heap.size := size_of (unhide Kt_9)
    have hlf_e : T3 + 1 < w9.heap.size := size_of (unhide Kf_9)
    (have HX_10 := hide (Below.next (unhide HX_9) hBWa (by first | exact Nat.le_refl _ | (have := unhide HBA; omega))); have Kp_10 := hide (keep_below (unhide Kp_9) hBWa); have Kx_10 := hide (keep_below (unhide Kx_9) hBWa); have Kc_10 := hide (keep_below (unhide Kc_9) hBWa); have Kt_10 := hide (keep_below (unhide Kt_9) hBWa); have Kf_10 := hide (keep_below (unhide Kf_9) hBWa); have Fx_10 := hide ((unhide Fx_9).below hBWa); have Ft_10 := hide ((unhide Ft_9).below hBWa); have Fe_10 := hide ((unhide HI9).below hBWa); clear HX_9 Kp_9 Kx_9 Kc_9 Kt_9 Kf_9 Fx_9 Ft_9 HI9)
    obtain ⟨T4, eT4⟩ : ∃ X, w9.heap.size = X := ⟨_, rfl⟩
    rw [eT4] at k0_10 k1_10 hlp_e hlx_e hlc_e hlt_e hlf_e ⊢
    have Ke_10 := hide k0_10
    have Kh_10 := hide k1_10
    clear eT4 hBWa k0_10 k1_10
    have HIT := hide (unhide Ft_10)
    have HCH := hide (Below.refl Wa.heap.size Wa)
    obtain ⟨⟨p0, p1, p2⟩, ⟨pf0, pf1, pf2⟩, pl⟩ := block3 (unhide Kp_10)
    go_upto_region 10 with (go_at_call 13; refine (unhide HSF _ (unhide HX_10)).mono ?_; rintro e wb ⟨he, hbb⟩; obtain rfl : e = .returned (.agg #[.int .i64 wc, .int .i64 wa]) := he; have HX_11 := hide (Below.next (unhide HX_10) hbb (by first | exact Nat.le_refl _ | (have := unhide HBA; omega))); have Kp_11 := hide (keep_below (unhide Kp_10) hbb); have Kx_11 := hide (keep_below (unhide Kx_10) hbb); have Kc_11 := hide (keep_below (unhide Kc_10) hbb); have Kt_11 := hide (keep_below (unhide Kt_10) hbb); have Kf_11 := hide (keep_below (unhide Kf_10) hbb); have Ke_11 := hide (keep_below (unhide Ke_10) hbb); have Kh_11 := hide (keep_below (unhide Kh_10) hbb); have Fx_11 := hide ((unhide Fx_10).below hbb); have Ft_11 := hide ((unhide Ft_10).below hbb); have Fe_11 := hide ((unhide Fe_10).below hbb); have Ct_11 := hide (Below.next (unhide HCH) hbb (Nat.le_refl _)); clear HX_10 Kp_10 Kx_10 Kc_10 Kt_10 Kf_10 Ke_10 Kh_10 Fx_10 Ft_10 Fe_10 HCH; clear hbb p0 p1 p2 pf0 pf1 pf2 pl)
    have hch5 := (unhide Ct_11).size
    have HX_12 := hide ((unhide HX_11).alloc (Nat.le_trans (show w.heap.size ≤ w.heap.size from Nat.le_refl _) (unhide HX_11).size) (.cells #[.int .i64 wc, .int .i64 wa] 29))
    have Kp_12 := hide (keep_alloc (unhide Kp_11) (.cells #[.int .i64 wc, .int .i64 wa] 29))
    have Kx_12 := hide (keep_alloc (unhide Kx_11) (.cells #[.int .i64 wc, .int .i64 wa] 29))
    have Kc_12 := hide (keep_alloc (unhide Kc_11) (.cells #[.int .i64 wc, .int .i64 wa] 29))
    have Kt_12 := hide (keep_alloc (unhide Kt_11) (.cells #[.int .i64 wc, .int .i64 wa] 29))
    have Kf_12 := hide (keep_alloc (unhide Kf_11) (.cells #[.int .i64 wc, .int .i64 wa] 29))
    have Ke_12 := hide (keep_alloc (unhide Ke_11) (.cells #[.int .i64 wc, .int .i64 wa] 29))
    have Kh_12 := hide (keep_alloc (unhide Kh_11) (.cells #[.int .i64 wc, .int .i64 wa] 29))
    have Fx_12 := hide ((unhide Fx_11).below ((Below.refl _ _).alloc (Nat.le_refl _) (.cells #[.int .i64 wc, .int .i64 wa] 29)))
    have Ft_12 := hide ((unhide Ft_11).below ((Below.refl _ _).alloc (Nat.le_refl _) (.cells #[.int .i64 wc, .int .i64 wa] 29)))
    have Fe_12 := hide ((unhide Fe_11).below ((Below.refl _ _).alloc (Nat.le_refl _) (.cells #[.int .i64 wc, .int .i64 wa] 29)))
    have Ct_12 := hide ((unhide Ct_11).alloc (unhide Ct_11).size (.cells #[.int .i64 wc, .int .i64 wa] 29))
    have Kw_12 := hide (new_block wb (.cells #[.int .i64 wc, .int .i64 wa] 29))
    have hlp_w : w.heap.size < wb.heap.size := size_of (unhide Kp_11)
    have hlx_w : T < wb.heap.size := size_of (unhide Kx_11)
    have hlc_w : T2 < wb.heap.size := size_of (unhide Kc_11)
    have hlt_w : T3 < wb.heap.size := size_of (unhide Kt_11)
    have hlf_w : T3 + 1 < wb.heap.size := size_of (unhide Kf_11)
    have hle_w : T4 < wb.heap.size := size_of (unhide Ke_11)
    have hlh_w : T4 + 1 < wb.heap.size := size_of (unhide Kh_11)
    obtain ⟨T5, eT5⟩ : ∃ X, wb.heap.size = X := ⟨_, rfl⟩
    obtain ⟨Wc, eWc⟩ : ∃ X, wb.alloc (.cells #[.int .i64 wc, .int .i64 wa] 29) = X := ⟨_, rfl⟩
    rw [eT5, eWc] at Kw_12; rw [eWc] at HX_12 Kp_12 Kx_12 Kc_12 Kt_12 Kf_12 Ke_12 Kh_12 Fx_12 Ft_12 Fe_12 Ct_12; rw [eT5] at hlp_w hlx_w hlc_w hlt_w hlf_w hle_w hlh_w hch5; rw [eT5, eWc]
    clear eT5 eWc HX_11 Kp_11 Kx_11 Kc_11 Kt_11 Kf_11 Ke_11 Kh_11 Fx_11 Ft_11 Fe_11 Ct_11
    obtain ⟨⟨p0, p1, p2⟩, ⟨pf0, pf1, pf2⟩, pl⟩ := block3 (unhide Kp_12)
    obtain ⟨⟨q0, q1, q2⟩, ⟨qf0, qf1, qf2⟩, ql⟩ := block3 (unhide Kx_12)
    obtain ⟨r0, r1, rf0, rf1, rl⟩ := block2 (unhide Kc_12)
    obtain ⟨y0, y1, yf0, yf1, yl⟩ := block2 (unhide Kw_12)
    have hbt : (wc == wc) = true := by simp
    go_upto_region 12 with (go_at_call 14; refine (sameSpace_same _ _ _ b us fs (unhide Fx_12) ((unhide HI).below (unhide HX_12)) (by have := unhide HVL; omega) (by have := unhide HVL; omega)).mono ?_; rintro e wd ⟨rfl, hbd⟩; have HX_13 := hide (Below.next (unhide HX_12) hbd (by first | exact Nat.le_refl _ | (have := unhide HBA; omega))); have Kp_13 := hide (keep_below (unhide Kp_12) hbd); have Kx_13 := hide (keep_below (unhide Kx_12) hbd); have Kc_13 := hide (keep_below (unhide Kc_12) hbd); have Kt_13 := hide (keep_below (unhide Kt_12) hbd); have Kf_13 := hide (keep_below (unhide Kf_12) hbd); have Ke_13 := hide (keep_below (unhide Ke_12) hbd); have Kh_13 := hide (keep_below (unhide Kh_12) hbd); have Kw_13 := hide (keep_below (unhide Kw_12) hbd); have Fx_13 := hide ((unhide Fx_12).below hbd); have Ft_13 := hide ((unhide Ft_12).below hbd); have Fe_13 := hide ((unhide Fe_12).below hbd); have Ct_13 := hide (Below.next (unhide Ct_12) hbd (Nat.le_refl _)); clear HX_12 Kp_12 Kx_12 Kc_12 Kt_12 Kf_12 Ke_12 Kh_12 Kw_12 Fx_12 Ft_12 Fe_12 Ct_12; clear hbd p0 p1 p2 pf0 pf1 pf2 pl q0 q1 q2 qf0 qf1 qf2 ql r0 r1 rf0 rf1 rl y0 y1 yf0 yf1 yl)
    have hb0 : ¬ bits < 0 := by omega
    have hqe : ∀ w, (Op.equalIn 10000 29 (.agg #[.int .i64 3, .int .i64 (-1)]) (.agg #[.int .i64 3, .int .i64 (-1)])).run Try.prog w = .ok true w := fun w => by rw [flt_eq]; rfl
    have HSS : Hid (∀ W, Below wd.heap.size wd W → ((W.cell? ⟨T4 + 1, 0, none⟩ = some (.int .i64 3) ∧ W.cell? ⟨T4 + 1, 1, none⟩ = some (.int .i64 (-1))) ∧ W.cell? ⟨T4, 0, none⟩ = some (.int .i64 0) ∧ W.cell? ⟨T4, 1, none⟩ = some (.slice ea en ec) ∧ W.cell? ⟨T4, 2, none⟩ = some (.slice eb em ed))) := fun W hW => ⟨⟨(block2 (keep_below (unhide Kh_13) hW)).1, (block2 (keep_below (unhide Kh_13) hW)).2.1⟩, (block3 (keep_below (unhide Ke_13) hW)).1⟩
    go_upto_region 13 with fail
    obtain ⟨⟨x0, x1⟩, u0, u1, u2⟩ := unhide HSS _ (Below.refl _ _)
    go_region_held3 (fun W => ((W.cell? ⟨T4 + 1, 0, none⟩ = some (.int .i64 3) ∧ W.cell? ⟨T4 + 1, 1, none⟩ = some (.int .i64 (-1))) ∧ W.cell? ⟨T4, 0, none⟩ = some (.int .i64 0) ∧ W.cell? ⟨T4, 1, none⟩ = some (.slice ea en ec) ∧ W.cell? ⟨T4, 2, none⟩ = some (.slice eb em ed)))
      (first | with_reducible exact unhide HSS _ (Below.refl _ _).drew | with_reducible exact unhide HSS _ (unhide HY5) | with_reducible exact unhide HSS _ (unhide HY6))
      (first
        | (go_at_call 15; refine (f_any _ _ _).mono ?_; rintro e wg ⟨rfl, hbg⟩; have HY5 : Hid (Below wd.heap.size wd wg) := Below.next (Below.refl _ _).drew hbg (Nat.le_refl _); clear hbg)
        | (go_at_call 14; refine (sameSpace_same _ _ _ 0 [] [] (isS_empty (unhide Fe_13)) (zero_s _) (by simp) (by simp)).mono ?_; rintro e wh ⟨rfl, hbh⟩; have HY6 : Hid (Below wd.heap.size wd wh) := Below.next (unhide HY5) hbh (Nat.le_refl _); clear hbh))
    all_goals clear x0 x1 u0 u1 u2
    all_goals try clear HSS
    (have HX_14 := hide (Below.next (unhide HX_13) (unhide HY6) (by first | exact Nat.le_refl _ | (have := unhide HBA; omega))); have Kp_14 := hide (keep_below (unhide Kp_13) (unhide HY6)); have Kx_14 := hide (keep_below (unhide Kx_13) (unhide HY6)); have Kc_14 := hide (keep_below (unhide Kc_13) (unhide HY6)); have Kt_14 := hide (keep_below (unhide Kt_13) (unhide HY6)); have Kf_14 := hide (keep_below (unhide Kf_13) (unhide HY6)); have Ke_14 := hide (keep_below (unhide Ke_13) (unhide HY6)); have Kh_14 := hide (keep_below (unhide Kh_13) (unhide HY6)); have Kw_14 := hide (keep_below (unhide Kw_13) (unhide HY6)); have Ft_14 := hide ((unhide Ft_13).below (unhide HY6)); have Fe_14 := hide ((unhide Fe_13).below (unhide HY6)); have Ct_14 := hide (Below.next (unhide Ct_13) (unhide HY6) (Nat.le_refl _)); clear HX_13 Kp_13 Kx_13 Kc_13 Kt_13 Kf_13 Ke_13 Kh_13 Kw_13 Ft_13 Fe_13 Ct_13)
    go_upto_region 17 with fail
    by_cases hwc : wc = 0
    · have hz : spaceF b us fs = (0, 0) := spaceF_zero (by rw [unhide HS]; exact hwc)
      have hwa : wa = 0 := by have := (unhide HS).symm.trans hz; exact congrArg Prod.snd this
      subst hwc hwa
      have hbe : ((0 : Int) == 0) = true := rfl
      have HZ := hide hz
      have hG := unhide HG
      unfold takeR at hG
      rw [if_neg (by rw [hz]; simp)] at hG
      clear hz
      by_cases hr : z < 1 ∨ 1073741824 < z
      · rw [if_pos hr] at hG
        cases hG
        clear HG HS
        by_cases hlo : z < 1
        · skip
          have hqf : ∀ w, (Op.equalIn 10000 29 (.agg #[.int .i64 3, .int .i64 (-1)]) (.agg #[.int .i64 3, .int .i64 (-1)])).run Try.prog w = .ok true w := fun w => by rw [flt_eq]; rfl
          obtain ⟨y0, y1, yf0, yf1, yl⟩ := block2 (unhide Kw_14)
          go_upto_region 19 with (go_at_call 15; refine (f_any _ _ _).mono ?_; rintro e ws ⟨rfl, hbs⟩; have HX_15 := hide (Below.next (unhide HX_14) hbs (by first | exact Nat.le_refl _ | (have := unhide HBA; omega))); have Kp_15 := hide (keep_below (unhide Kp_14) hbs); have Kx_15 := hide (keep_below (unhide Kx_14) hbs); have Kc_15 := hide (keep_below (unhide Kc_14) hbs); have Kt_15 := hide (keep_below (unhide Kt_14) hbs); have Kf_15 := hide (keep_below (unhide Kf_14) hbs); have Ke_15 := hide (keep_below (unhide Ke_14) hbs); have Kh_15 := hide (keep_below (unhide Kh_14) hbs); have Kw_15 := hide (keep_below (unhide Kw_14) hbs); have Ct_15 := hide (Below.next (unhide Ct_14) hbs (Nat.le_refl _)); clear HX_14 Kp_14 Kx_14 Kc_14 Kt_14 Kf_14 Ke_14 Kh_14 Kw_14 Ct_14; clear hbs y0 y1 yf0 yf1 yl; obtain ⟨y0, y1, yf0, yf1, yl⟩ := block2 (unhide Kw_15))
          clear y0 y1 yf0 yf1 yl
          have HX_16 := hide (put2_below (y0 := .int .i64 3) (y1 := .int .i64 (-1)) (unhide HX_15) (show w.heap.size ≤ T5 by first | omega | (have := unhide HBA; omega)))
          have Kp_16 := hide ((put2_keep (y0 := .int .i64 3) (y1 := .int .i64 (-1)) (show w.heap.size ≠ T5 by omega)).trans (unhide Kp_15))
          have Kx_16 := hide ((put2_keep (y0 := .int .i64 3) (y1 := .int .i64 (-1)) (show T ≠ T5 by omega)).trans (unhide Kx_15))
          have Kc_16 := hide ((put2_keep (y0 := .int .i64 3) (y1 := .int .i64 (-1)) (show T2 ≠ T5 by omega)).trans (unhide Kc_15))
          have Kt_16 := hide ((put2_keep (y0 := .int .i64 3) (y1 := .int .i64 (-1)) (show T3 ≠ T5 by omega)).trans (unhide Kt_15))
          have Kf_16 := hide ((put2_keep (y0 := .int .i64 3) (y1 := .int .i64 (-1)) (show T3 + 1 ≠ T5 by omega)).trans (unhide Kf_15))
          have Ke_16 := hide ((put2_keep (y0 := .int .i64 3) (y1 := .int .i64 (-1)) (show T4 ≠ T5 by omega)).trans (unhide Ke_15))
          have Kh_16 := hide ((put2_keep (y0 := .int .i64 3) (y1 := .int .i64 (-1)) (show T4 + 1 ≠ T5 by omega)).trans (unhide Kh_15))
          have Kw_16 := hide (put2_new (y0 := .int .i64 3) (y1 := .int .i64 (-1)) (unhide Kw_15))
          have Ct_16 := hide (put2_below (y0 := .int .i64 3) (y1 := .int .i64 (-1)) (unhide Ct_15) (show _ ≤ T5 by omega))
          obtain ⟨Wt, eWt⟩ : ∃ X, put2 ws (T5) (.int .i64 3) (.int .i64 (-1)) = X := ⟨_, rfl⟩
          rw [eWt] at HX_16 Kp_16 Kx_16 Kc_16 Kt_16 Kf_16 Ke_16 Kh_16 Kw_16 Ct_16
          have eWt2 : ((ws).setCell ⟨T5, 0, none⟩ (.int .i64 3)).setCell ⟨T5, 1, none⟩ (.int .i64 (-1)) = Wt := eWt
          rw [eWt2]
          clear eWt eWt2 HX_15 Kp_15 Kx_15 Kc_15 Kt_15 Kf_15 Ke_15 Kh_15 Kw_15 Ct_15
          obtain ⟨y0, y1, yf0, yf1, yl⟩ := block2 (unhide Kw_16)
          have hch6 := (unhide Ct_16).size
          go_upto_region 20 with fail
          clear y0 y1 yf0 yf1 yl
          have HX_17 := hide ((unhide HX_16).alloc (Nat.le_trans (show w.heap.size ≤ w.heap.size from Nat.le_refl _) (unhide HX_16).size) (.cells #[.int .i64 0, .slice none 0 0, .slice none 0 0] 24))
          have Kp_17 := hide (keep_alloc (unhide Kp_16) (.cells #[.int .i64 0, .slice none 0 0, .slice none 0 0] 24))
          have Kx_17 := hide (keep_alloc (unhide Kx_16) (.cells #[.int .i64 0, .slice none 0 0, .slice none 0 0] 24))
          have Kc_17 := hide (keep_alloc (unhide Kc_16) (.cells #[.int .i64 0, .slice none 0 0, .slice none 0 0] 24))
          have Kt_17 := hide (keep_alloc (unhide Kt_16) (.cells #[.int .i64 0, .slice none 0 0, .slice none 0 0] 24))
          have Kf_17 := hide (keep_alloc (unhide Kf_16) (.cells #[.int .i64 0, .slice none 0 0, .slice none 0 0] 24))
          have Ke_17 := hide (keep_alloc (unhide Ke_16) (.cells #[.int .i64 0, .slice none 0 0, .slice none 0 0] 24))
          have Kh_17 := hide (keep_alloc (unhide Kh_16) (.cells #[.int .i64 0, .slice none 0 0, .slice none 0 0] 24))
          have Kw_17 := hide (keep_alloc (unhide Kw_16) (.cells #[.int .i64 0, .slice none 0 0, .slice none 0 0] 24))
          have Ct_17 := hide ((unhide Ct_16).alloc (unhide Ct_16).size (.cells #[.int .i64 0, .slice none 0 0, .slice none 0 0] 24))
          have Kv_17 := hide (new_block Wt (.cells #[.int .i64 0, .slice none 0 0, .slice none 0 0] 24))
          have hlp_v : w.heap.size < Wt.heap.size := size_of (unhide Kp_16)
          have hlx_v : T < Wt.heap.size := size_of (unhide Kx_16)
          have hlc_v : T2 < Wt.heap.size := size_of (unhide Kc_16)
          have hlt_v : T3 < Wt.heap.size := size_of (unhide Kt_16)
          have hlf_v : T3 + 1 < Wt.heap.size := size_of (unhide Kf_16)
          have hle_v : T4 < Wt.heap.size := size_of (unhide Ke_16)
          have hlh_v : T4 + 1 < Wt.heap.size := size_of (unhide Kh_16)
          have hlw_v : T5 < Wt.heap.size := size_of (unhide Kw_16)
          obtain ⟨T6, eT6⟩ : ∃ X, Wt.heap.size = X := ⟨_, rfl⟩
          obtain ⟨We, eWe⟩ : ∃ X, Wt.alloc (.cells #[.int .i64 0, .slice none 0 0, .slice none 0 0] 24) = X := ⟨_, rfl⟩
          rw [eT6, eWe] at Kv_17; rw [eWe] at HX_17 Kp_17 Kx_17 Kc_17 Kt_17 Kf_17 Ke_17 Kh_17 Kw_17 Ct_17; rw [eT6] at hlp_v hlx_v hlc_v hlt_v hlf_v hle_v hlh_v hlw_v hch6; rw [eT6, eWe]
          clear eT6 eWe HX_16 Kp_16 Kx_16 Kc_16 Kt_16 Kf_16 Ke_16 Kh_16 Kw_16 Ct_16
          obtain ⟨q0, q1, qf0, qf1, ql⟩ := block2 (unhide Kf_17)
          obtain ⟨y0, y1, yf0, yf1, yl⟩ := block2 (unhide Kw_17)
          obtain ⟨⟨r0, r1, r2⟩, ⟨rf0, rf1, rf2⟩, rl⟩ := block3 (unhide Kt_17)
          go_wp2_with (go_at_call 14; refine (sameSpace_same _ _ _ 0 [] [] (isS_empty (unhide HIT)) (zero_s _) (by simp) (by simp)).mono ?_; rintro e wz ⟨rfl, hbz⟩; have HXZ := hide (Below.next (unhide HX_17) hbz (Nat.le_refl _)); clear hbz)
          go_ret
          exact ⟨rfl, unhide HXZ⟩
        · have hhi : 1073741824 < z := by omega
          have hqf : ∀ w, (Op.equalIn 10000 29 (.agg #[.int .i64 3, .int .i64 (-1)]) (.agg #[.int .i64 3, .int .i64 (-1)])).run Try.prog w = .ok true w := fun w => by rw [flt_eq]; rfl
          obtain ⟨y0, y1, yf0, yf1, yl⟩ := block2 (unhide Kw_14)
          go_upto_region 19 with (go_at_call 15; refine (f_any _ _ _).mono ?_; rintro e ws ⟨rfl, hbs⟩; have HX_15 := hide (Below.next (unhide HX_14) hbs (by first | exact Nat.le_refl _ | (have := unhide HBA; omega))); have Kp_15 := hide (keep_below (unhide Kp_14) hbs); have Kx_15 := hide (keep_below (unhide Kx_14) hbs); have Kc_15 := hide (keep_below (unhide Kc_14) hbs); have Kt_15 := hide (keep_below (unhide Kt_14) hbs); have Kf_15 := hide (keep_below (unhide Kf_14) hbs); have Ke_15 := hide (keep_below (unhide Ke_14) hbs); have Kh_15 := hide (keep_below (unhide Kh_14) hbs); have Kw_15 := hide (keep_below (unhide Kw_14) hbs); have Ct_15 := hide (Below.next (unhide Ct_14) hbs (Nat.le_refl _)); clear HX_14 Kp_14 Kx_14 Kc_14 Kt_14 Kf_14 Ke_14 Kh_14 Kw_14 Ct_14; clear hbs y0 y1 yf0 yf1 yl; obtain ⟨y0, y1, yf0, yf1, yl⟩ := block2 (unhide Kw_15))
          clear y0 y1 yf0 yf1 yl
          have HX_16 := hide (put2_below (y0 := .int .i64 3) (y1 := .int .i64 (-1)) (unhide HX_15) (show w.heap.size ≤ T5 by first | omega | (have := unhide HBA; omega)))
          have Kp_16 := hide ((put2_keep (y0 := .int .i64 3) (y1 := .int .i64 (-1)) (show w.heap.size ≠ T5 by omega)).trans (unhide Kp_15))
          have Kx_16 := hide ((put2_keep (y0 := .int .i64 3) (y1 := .int .i64 (-1)) (show T ≠ T5 by omega)).trans (unhide Kx_15))
          have Kc_16 := hide ((put2_keep (y0 := .int .i64 3) (y1 := .int .i64 (-1)) (show T2 ≠ T5 by omega)).trans (unhide Kc_15))
          have Kt_16 := hide ((put2_keep (y0 := .int .i64 3) (y1 := .int .i64 (-1)) (show T3 ≠ T5 by omega)).trans (unhide Kt_15))
          have Kf_16 := hide ((put2_keep (y0 := .int .i64 3) (y1 := .int .i64 (-1)) (show T3 + 1 ≠ T5 by omega)).trans (unhide Kf_15))
          have Ke_16 := hide ((put2_keep (y0 := .int .i64 3) (y1 := .int .i64 (-1)) (show T4 ≠ T5 by omega)).trans (unhide Ke_15))
          have Kh_16 := hide ((put2_keep (y0 := .int .i64 3) (y1 := .int .i64 (-1)) (show T4 + 1 ≠ T5 by omega)).trans (unhide Kh_15))
          have Kw_16 := hide (put2_new (y0 := .int .i64 3) (y1 := .int .i64 (-1)) (unhide Kw_15))
          have Ct_16 := hide (put2_below (y0 := .int .i64 3) (y1 := .int .i64 (-1)) (unhide Ct_15) (show _ ≤ T5 by omega))
          obtain ⟨Wt, eWt⟩ : ∃ X, put2 ws (T5) (.int .i64 3) (.int .i64 (-1)) = X := ⟨_, rfl⟩
          rw [eWt] at HX_16 Kp_16 Kx_16 Kc_16 Kt_16 Kf_16 Ke_16 Kh_16 Kw_16 Ct_16
          have eWt2 : ((ws).setCell ⟨T5, 0, none⟩ (.int .i64 3)).setCell ⟨T5, 1, none⟩ (.int .i64 (-1)) = Wt := eWt
          rw [eWt2]
          clear eWt eWt2 HX_15 Kp_15 Kx_15 Kc_15 Kt_15 Kf_15 Ke_15 Kh_15 Kw_15 Ct_15
          obtain ⟨y0, y1, yf0, yf1, yl⟩ := block2 (unhide Kw_16)
          have hch6 := (unhide Ct_16).size
          go_upto_region 20 with fail
          clear y0 y1 yf0 yf1 yl
          have HX_17 := hide ((unhide HX_16).alloc (Nat.le_trans (show w.heap.size ≤ w.heap.size from Nat.le_refl _) (unhide HX_16).size) (.cells #[.int .i64 0, .slice none 0 0, .slice none 0 0] 24))
          have Kp_17 := hide (keep_alloc (unhide Kp_16) (.cells #[.int .i64 0, .slice none 0 0, .slice none 0 0] 24))
          have Kx_17 := hide (keep_alloc (unhide Kx_16) (.cells #[.int .i64 0, .slice none 0 0, .slice none 0 0] 24))
          have Kc_17 := hide (keep_alloc (unhide Kc_16) (.cells #[.int .i64 0, .slice none 0 0, .slice none 0 0] 24))
          have Kt_17 := hide (keep_alloc (unhide Kt_16) (.cells #[.int .i64 0, .slice none 0 0, .slice none 0 0] 24))
          have Kf_17 := hide (keep_alloc (unhide Kf_16) (.cells #[.int .i64 0, .slice none 0 0, .slice none 0 0] 24))
          have Ke_17 := hide (keep_alloc (unhide Ke_16) (.cells #[.int .i64 0, .slice none 0 0, .slice none 0 0] 24))
          have Kh_17 := hide (keep_alloc (unhide Kh_16) (.cells #[.int .i64 0, .slice none 0 0, .slice none 0 0] 24))
          have Kw_17 := hide (keep_alloc (unhide Kw_16) (.cells #[.int .i64 0, .slice none 0 0, .slice none 0 0] 24))
          have Ct_17 := hide ((unhide Ct_16).alloc (unhide Ct_16).size (.cells #[.int .i64 0, .slice none 0 0, .slice none 0 0] 24))
          have Kv_17 := hide (new_block Wt (.cells #[.int .i64 0, .slice none 0 0, .slice none 0 0] 24))
          have hlp_v : w.heap.size < Wt.heap.size := size_of (unhide Kp_16)
          have hlx_v : T < Wt.heap.size := size_of (unhide Kx_16)
          have hlc_v : T2 < Wt.heap.size := size_of (unhide Kc_16)
          have hlt_v : T3 < Wt.heap.size := size_of (unhide Kt_16)
          have hlf_v : T3 + 1 < Wt.heap.size := size_of (unhide Kf_16)
          have hle_v : T4 < Wt.heap.size := size_of (unhide Ke_16)
          have hlh_v : T4 + 1 < Wt.heap.size := size_of (unhide Kh_16)
          have hlw_v : T5 < Wt.heap.size := size_of (unhide Kw_16)
          obtain ⟨T6, eT6⟩ : ∃ X, Wt.heap.size = X := ⟨_, rfl⟩
          obtain ⟨We, eWe⟩ : ∃ X, Wt.alloc (.cells #[.int .i64 0, .slice none 0 0, .slice none 0 0] 24) = X := ⟨_, rfl⟩
          rw [eT6, eWe] at Kv_17; rw [eWe] at HX_17 Kp_17 Kx_17 Kc_17 Kt_17 Kf_17 Ke_17 Kh_17 Kw_17 Ct_17; rw [eT6] at hlp_v hlx_v hlc_v hlt_v hlf_v hle_v hlh_v hlw_v hch6; rw [eT6, eWe]
          clear eT6 eWe HX_16 Kp_16 Kx_16 Kc_16 Kt_16 Kf_16 Ke_16 Kh_16 Kw_16 Ct_16
          obtain ⟨q0, q1, qf0, qf1, ql⟩ := block2 (unhide Kf_17)
          obtain ⟨y0, y1, yf0, yf1, yl⟩ := block2 (unhide Kw_17)
          obtain ⟨⟨r0, r1, r2⟩, ⟨rf0, rf1, rf2⟩, rl⟩ := block3 (unhide Kt_17)
          go_wp2_with (go_at_call 14; refine (sameSpace_same _ _ _ 0 [] [] (isS_empty (unhide HIT)) (zero_s _) (by simp) (by simp)).mono ?_; rintro e wz ⟨rfl, hbz⟩; have HXZ := hide (Below.next (unhide HX_17) hbz (Nat.le_refl _)); clear hbz)
          go_ret
          exact ⟨rfl, unhide HXZ⟩
      · rw [if_neg hr] at hG
        have hr1 : ¬ z < 1 := by omega
        have hr2 : ¬ 1073741824 < z := by omega
        have HTO : Hid (∀ W, Below w.heap.size w W → Calls Try.prog 16 #[.agg #[.int .i64 b, .slice a0 n c0, .slice a1 m c1], .int .i64 z] W fun e w' => (leastL (asks z) fs = none ∧ (∃ au cu af cf nu nf, e = .returned (.tuple #[.agg #[.int .i64 b, .slice au nu cu, .slice af nf cf], .int .i64 0, .bool false]) ∧ nu + nf = us.length + fs.length) ∨ ∃ x sv, leastL (asks z) fs = some x ∧ e = .returned (.tuple #[sv, .int .i64 x.1, .bool true]) ∧ NewS W.heap.size w' sv b (takeUs z us x) (takeFs z fs x)) ∧ Below W.heap.size W w') := fun W hW => takenOf_any W _ b us fs z ((unhide HI).below hW) (by have := unhide HVL; omega) (by have := unhide HVL; omega) (unhide HZ) (by omega) (by omega)
        cases hl : leastL (asks z) fs with
        | none =>
          rw [hl] at hG
          cases hG
          obtain ⟨y0, y1, yf0, yf1, yl⟩ := block2 (unhide Kw_14)
          have hch6 := (unhide Ct_14).size
          go_upto_region 20 with fail
          clear y0 y1 yf0 yf1 yl
          have HX_15 := hide ((unhide HX_14).alloc (Nat.le_trans (show w.heap.size ≤ w.heap.size from Nat.le_refl _) (unhide HX_14).size) (.cells #[.int .i64 0, .slice none 0 0, .slice none 0 0] 24))
          have Kp_15 := hide (keep_alloc (unhide Kp_14) (.cells #[.int .i64 0, .slice none 0 0, .slice none 0 0] 24))
          have Kx_15 := hide (keep_alloc (unhide Kx_14) (.cells #[.int .i64 0, .slice none 0 0, .slice none 0 0] 24))
          have Kc_15 := hide (keep_alloc (unhide Kc_14) (.cells #[.int .i64 0, .slice none 0 0, .slice none 0 0] 24))
          have Kt_15 := hide (keep_alloc (unhide Kt_14) (.cells #[.int .i64 0, .slice none 0 0, .slice none 0 0] 24))
          have Kf_15 := hide (keep_alloc (unhide Kf_14) (.cells #[.int .i64 0, .slice none 0 0, .slice none 0 0] 24))
          have Ke_15 := hide (keep_alloc (unhide Ke_14) (.cells #[.int .i64 0, .slice none 0 0, .slice none 0 0] 24))
          have Kh_15 := hide (keep_alloc (unhide Kh_14) (.cells #[.int .i64 0, .slice none 0 0, .slice none 0 0] 24))
          have Kw_15 := hide (keep_alloc (unhide Kw_14) (.cells #[.int .i64 0, .slice none 0 0, .slice none 0 0] 24))
          have Ct_15 := hide ((unhide Ct_14).alloc (unhide Ct_14).size (.cells #[.int .i64 0, .slice none 0 0, .slice none 0 0] 24))
          have Kv_15 := hide (new_block wh (.cells #[.int .i64 0, .slice none 0 0, .slice none 0 0] 24))
          have hlp_v : w.heap.size < wh.heap.size := size_of (unhide Kp_14)
          have hlx_v : T < wh.heap.size := size_of (unhide Kx_14)
          have hlc_v : T2 < wh.heap.size := size_of (unhide Kc_14)
          have hlt_v : T3 < wh.heap.size := size_of (unhide Kt_14)
          have hlf_v : T3 + 1 < wh.heap.size := size_of (unhide Kf_14)
          have hle_v : T4 < wh.heap.size := size_of (unhide Ke_14)
          have hlh_v : T4 + 1 < wh.heap.size := size_of (unhide Kh_14)
          have hlw_v : T5 < wh.heap.size := size_of (unhide Kw_14)
          obtain ⟨T6, eT6⟩ : ∃ X, wh.heap.size = X := ⟨_, rfl⟩
          obtain ⟨We, eWe⟩ : ∃ X, wh.alloc (.cells #[.int .i64 0, .slice none 0 0, .slice none 0 0] 24) = X := ⟨_, rfl⟩
          rw [eT6, eWe] at Kv_15; rw [eWe] at HX_15 Kp_15 Kx_15 Kc_15 Kt_15 Kf_15 Ke_15 Kh_15 Kw_15 Ct_15; rw [eT6] at hlp_v hlx_v hlc_v hlt_v hlf_v hle_v hlh_v hlw_v hch6; rw [eT6, eWe]
          clear eT6 eWe HX_14 Kp_14 Kx_14 Kc_14 Kt_14 Kf_14 Ke_14 Kh_14 Kw_14 Ct_14
          obtain ⟨⟨p0, p1, p2⟩, ⟨pf0, pf1, pf2⟩, pl⟩ := block3 (unhide Kp_15)
          obtain ⟨y0, y1, yf0, yf1, yl⟩ := block2 (unhide Kw_15)
          go_upto_region 23 with (go_at_call 16; refine (unhide HTO _ (unhide HX_15)).mono ?_; rintro e wf ⟨hh, hbf⟩; obtain ⟨ag, cg, ah, ch, ng, nh, rfl, hsm⟩ : ∃ au cu af cf nu nf, e = .returned (.tuple #[.agg #[.int .i64 b, .slice au nu cu, .slice af nf cf], .int .i64 0, .bool false]) ∧ nu + nf = us.length + fs.length := (hh.elim (fun h => h.2) (fun ⟨x, sv, h1, _⟩ => by rw [hl] at h1; cases h1)); have HX_16 := hide (Below.next (unhide HX_15) hbf (by first | exact Nat.le_refl _ | (have := unhide HBA; omega))); have Kp_16 := hide (keep_below (unhide Kp_15) hbf); have Kx_16 := hide (keep_below (unhide Kx_15) hbf); have Kc_16 := hide (keep_below (unhide Kc_15) hbf); have Kt_16 := hide (keep_below (unhide Kt_15) hbf); have Kf_16 := hide (keep_below (unhide Kf_15) hbf); have Ke_16 := hide (keep_below (unhide Ke_15) hbf); have Kh_16 := hide (keep_below (unhide Kh_15) hbf); have Kw_16 := hide (keep_below (unhide Kw_15) hbf); have Kv_16 := hide (keep_below (unhide Kv_15) hbf); have Ct_16 := hide (Below.next (unhide Ct_15) hbf (Nat.le_refl _)); clear HX_15 Kp_15 Kx_15 Kc_15 Kt_15 Kf_15 Ke_15 Kh_15 Kw_15 Kv_15 Ct_15; clear hbf hh hsm p0 p1 p2 pf0 pf1 pf2 pl y0 y1 yf0 yf1 yl)
          have HX_17 := hide ((unhide HX_16).alloc (Nat.le_trans (show w.heap.size ≤ w.heap.size from Nat.le_refl _) (unhide HX_16).size) (.cells #[.int .i64 b, .slice ag ng cg, .slice ah nh ch] 24))
          have Kp_17 := hide (keep_alloc (unhide Kp_16) (.cells #[.int .i64 b, .slice ag ng cg, .slice ah nh ch] 24))
          have Kx_17 := hide (keep_alloc (unhide Kx_16) (.cells #[.int .i64 b, .slice ag ng cg, .slice ah nh ch] 24))
          have Kc_17 := hide (keep_alloc (unhide Kc_16) (.cells #[.int .i64 b, .slice ag ng cg, .slice ah nh ch] 24))
          have Kt_17 := hide (keep_alloc (unhide Kt_16) (.cells #[.int .i64 b, .slice ag ng cg, .slice ah nh ch] 24))
          have Kf_17 := hide (keep_alloc (unhide Kf_16) (.cells #[.int .i64 b, .slice ag ng cg, .slice ah nh ch] 24))
          have Ke_17 := hide (keep_alloc (unhide Ke_16) (.cells #[.int .i64 b, .slice ag ng cg, .slice ah nh ch] 24))
          have Kh_17 := hide (keep_alloc (unhide Kh_16) (.cells #[.int .i64 b, .slice ag ng cg, .slice ah nh ch] 24))
          have Kw_17 := hide (keep_alloc (unhide Kw_16) (.cells #[.int .i64 b, .slice ag ng cg, .slice ah nh ch] 24))
          have Kv_17 := hide (keep_alloc (unhide Kv_16) (.cells #[.int .i64 b, .slice ag ng cg, .slice ah nh ch] 24))
          have Ct_17 := hide ((unhide Ct_16).alloc (unhide Ct_16).size (.cells #[.int .i64 b, .slice ag ng cg, .slice ah nh ch] 24))
          have Ku_17 := hide (new_block wf (.cells #[.int .i64 b, .slice ag ng cg, .slice ah nh ch] 24))
          have hlp_u : w.heap.size < wf.heap.size := size_of (unhide Kp_16)
          have hlx_u : T < wf.heap.size := size_of (unhide Kx_16)
          have hlc_u : T2 < wf.heap.size := size_of (unhide Kc_16)
          have hlt_u : T3 < wf.heap.size := size_of (unhide Kt_16)
          have hlf_u : T3 + 1 < wf.heap.size := size_of (unhide Kf_16)
          have hle_u : T4 < wf.heap.size := size_of (unhide Ke_16)
          have hlh_u : T4 + 1 < wf.heap.size := size_of (unhide Kh_16)
          have hlw_u : T5 < wf.heap.size := size_of (unhide Kw_16)
          have hlv_u : T6 < wf.heap.size := size_of (unhide Kv_16)
          obtain ⟨T7, eT7⟩ : ∃ X, wf.heap.size = X := ⟨_, rfl⟩
          obtain ⟨Wf, eWf⟩ : ∃ X, wf.alloc (.cells #[.int .i64 b, .slice ag ng cg, .slice ah nh ch] 24) = X := ⟨_, rfl⟩
          rw [eT7, eWf] at Ku_17; rw [eWf] at HX_17 Kp_17 Kx_17 Kc_17 Kt_17 Kf_17 Ke_17 Kh_17 Kw_17 Kv_17 Ct_17; rw [eT7] at hlp_u hlx_u hlc_u hlt_u hlf_u hle_u hlh_u hlw_u hlv_u; rw [eT7, eWf]
          clear eT7 eWf HX_16 Kp_16 Kx_16 Kc_16 Kt_16 Kf_16 Ke_16 Kh_16 Kw_16 Kv_16 Ct_16
          clear HG HS
          have hqf : ∀ w, (Op.equalIn 10000 29 (.agg #[.int .i64 6, .int .i64 0]) (.agg #[.int .i64 6, .int .i64 0])).run Try.prog w = .ok true w := fun w => by rw [flt_eq]; rfl
          obtain ⟨y0, y1, yf0, yf1, yl⟩ := block2 (unhide Kw_17)
          go_upto_region 27 with (go_at_call 15; refine (f_any _ _ _).mono ?_; rintro e ws ⟨rfl, hbs⟩; have HX_18 := hide (Below.next (unhide HX_17) hbs (by first | exact Nat.le_refl _ | (have := unhide HBA; omega))); have Kp_18 := hide (keep_below (unhide Kp_17) hbs); have Kx_18 := hide (keep_below (unhide Kx_17) hbs); have Kc_18 := hide (keep_below (unhide Kc_17) hbs); have Kt_18 := hide (keep_below (unhide Kt_17) hbs); have Kf_18 := hide (keep_below (unhide Kf_17) hbs); have Ke_18 := hide (keep_below (unhide Ke_17) hbs); have Kh_18 := hide (keep_below (unhide Kh_17) hbs); have Kw_18 := hide (keep_below (unhide Kw_17) hbs); have Kv_18 := hide (keep_below (unhide Kv_17) hbs); have Ku_18 := hide (keep_below (unhide Ku_17) hbs); have Ct_18 := hide (Below.next (unhide Ct_17) hbs (Nat.le_refl _)); clear HX_17 Kp_17 Kx_17 Kc_17 Kt_17 Kf_17 Ke_17 Kh_17 Kw_17 Kv_17 Ku_17 Ct_17; clear hbs y0 y1 yf0 yf1 yl; obtain ⟨y0, y1, yf0, yf1, yl⟩ := block2 (unhide Kw_18))
          clear y0 y1 yf0 yf1 yl
          have HX_19 := hide (put2_below (y0 := .int .i64 6) (y1 := .int .i64 0) (unhide HX_18) (show w.heap.size ≤ T5 by first | omega | (have := unhide HBA; omega)))
          have Kp_19 := hide ((put2_keep (y0 := .int .i64 6) (y1 := .int .i64 0) (show w.heap.size ≠ T5 by omega)).trans (unhide Kp_18))
          have Kx_19 := hide ((put2_keep (y0 := .int .i64 6) (y1 := .int .i64 0) (show T ≠ T5 by omega)).trans (unhide Kx_18))
          have Kc_19 := hide ((put2_keep (y0 := .int .i64 6) (y1 := .int .i64 0) (show T2 ≠ T5 by omega)).trans (unhide Kc_18))
          have Kt_19 := hide ((put2_keep (y0 := .int .i64 6) (y1 := .int .i64 0) (show T3 ≠ T5 by omega)).trans (unhide Kt_18))
          have Kf_19 := hide ((put2_keep (y0 := .int .i64 6) (y1 := .int .i64 0) (show T3 + 1 ≠ T5 by omega)).trans (unhide Kf_18))
          have Ke_19 := hide ((put2_keep (y0 := .int .i64 6) (y1 := .int .i64 0) (show T4 ≠ T5 by omega)).trans (unhide Ke_18))
          have Kh_19 := hide ((put2_keep (y0 := .int .i64 6) (y1 := .int .i64 0) (show T4 + 1 ≠ T5 by omega)).trans (unhide Kh_18))
          have Kw_19 := hide (put2_new (y0 := .int .i64 6) (y1 := .int .i64 0) (unhide Kw_18))
          have Kv_19 := hide ((put2_keep (y0 := .int .i64 6) (y1 := .int .i64 0) (show T6 ≠ T5 by omega)).trans (unhide Kv_18))
          have Ku_19 := hide ((put2_keep (y0 := .int .i64 6) (y1 := .int .i64 0) (show T7 ≠ T5 by omega)).trans (unhide Ku_18))
          have Ct_19 := hide (put2_below (y0 := .int .i64 6) (y1 := .int .i64 0) (unhide Ct_18) (show _ ≤ T5 by omega))
          obtain ⟨Wt, eWt⟩ : ∃ X, put2 ws (T5) (.int .i64 6) (.int .i64 0) = X := ⟨_, rfl⟩
          rw [eWt] at HX_19 Kp_19 Kx_19 Kc_19 Kt_19 Kf_19 Ke_19 Kh_19 Kw_19 Kv_19 Ku_19 Ct_19
          have eWt2 : ((ws).setCell ⟨T5, 0, none⟩ (.int .i64 6)).setCell ⟨T5, 1, none⟩ (.int .i64 0) = Wt := eWt
          rw [eWt2]
          clear eWt eWt2 HX_18 Kp_18 Kx_18 Kc_18 Kt_18 Kf_18 Ke_18 Kh_18 Kw_18 Kv_18 Ku_18 Ct_18
          obtain ⟨⟨u0, u1, u2⟩, ⟨uf0, uf1, uf2⟩, ul⟩ := block3 (unhide Ku_19)
          obtain ⟨⟨o0, o1, o2⟩, ⟨of0, of1, of2⟩, ol⟩ := block3 (unhide Kv_19)
          go_upto_region 28 with fail
          clear u0 u1 u2 uf0 uf1 uf2 ul o0 o1 o2 of0 of1 of2 ol
          have HX_20 := hide (putL_below (y0 := .int .i64 b) (y1 := .slice ag ng cg) (y2 := .slice ah nh ch) (unhide HX_19) (show w.heap.size ≤ T6 by first | omega | (have := unhide HBA; omega)))
          have Kp_20 := hide ((putL_keep (y0 := .int .i64 b) (y1 := .slice ag ng cg) (y2 := .slice ah nh ch) (show w.heap.size ≠ T6 by omega)).trans (unhide Kp_19))
          have Kx_20 := hide ((putL_keep (y0 := .int .i64 b) (y1 := .slice ag ng cg) (y2 := .slice ah nh ch) (show T ≠ T6 by omega)).trans (unhide Kx_19))
          have Kc_20 := hide ((putL_keep (y0 := .int .i64 b) (y1 := .slice ag ng cg) (y2 := .slice ah nh ch) (show T2 ≠ T6 by omega)).trans (unhide Kc_19))
          have Kt_20 := hide ((putL_keep (y0 := .int .i64 b) (y1 := .slice ag ng cg) (y2 := .slice ah nh ch) (show T3 ≠ T6 by omega)).trans (unhide Kt_19))
          have Kf_20 := hide ((putL_keep (y0 := .int .i64 b) (y1 := .slice ag ng cg) (y2 := .slice ah nh ch) (show T3 + 1 ≠ T6 by omega)).trans (unhide Kf_19))
          have Ke_20 := hide ((putL_keep (y0 := .int .i64 b) (y1 := .slice ag ng cg) (y2 := .slice ah nh ch) (show T4 ≠ T6 by omega)).trans (unhide Ke_19))
          have Kh_20 := hide ((putL_keep (y0 := .int .i64 b) (y1 := .slice ag ng cg) (y2 := .slice ah nh ch) (show T4 + 1 ≠ T6 by omega)).trans (unhide Kh_19))
          have Kw_20 := hide ((putL_keep (y0 := .int .i64 b) (y1 := .slice ag ng cg) (y2 := .slice ah nh ch) (show T5 ≠ T6 by omega)).trans (unhide Kw_19))
          have Kv_20 := hide (putL_new (y0 := .int .i64 b) (y1 := .slice ag ng cg) (y2 := .slice ah nh ch) (unhide Kv_19))
          have Ku_20 := hide ((putL_keep (y0 := .int .i64 b) (y1 := .slice ag ng cg) (y2 := .slice ah nh ch) (show T7 ≠ T6 by omega)).trans (unhide Ku_19))
          have Ct_20 := hide (putL_below (y0 := .int .i64 b) (y1 := .slice ag ng cg) (y2 := .slice ah nh ch) (unhide Ct_19) (show _ ≤ T6 by omega))
          obtain ⟨Wv, eWv⟩ : ∃ X, putL Wt (T6) (.int .i64 b) (.slice ag ng cg) (.slice ah nh ch) = X := ⟨_, rfl⟩
          rw [eWv] at HX_20 Kp_20 Kx_20 Kc_20 Kt_20 Kf_20 Ke_20 Kh_20 Kw_20 Kv_20 Ku_20 Ct_20
          have eWv2 : (((Wt).setCell ⟨T6, 0, none⟩ (.int .i64 b)).setCell ⟨T6, 1, none⟩ (.slice ag ng cg)).setCell ⟨T6, 2, none⟩ (.slice ah nh ch) = Wv := eWv
          rw [eWv2]
          clear eWv eWv2 HX_19 Kp_19 Kx_19 Kc_19 Kt_19 Kf_19 Ke_19 Kh_19 Kw_19 Kv_19 Ku_19 Ct_19
          obtain ⟨q0, q1, qf0, qf1, ql⟩ := block2 (unhide Kf_20)
          obtain ⟨y0, y1, yf0, yf1, yl⟩ := block2 (unhide Kw_20)
          obtain ⟨⟨r0, r1, r2⟩, ⟨rf0, rf1, rf2⟩, rl⟩ := block3 (unhide Kt_20)
          go_wp2_with (go_at_call 14; refine (sameSpace_same _ _ _ 0 [] [] (isS_empty (unhide HIT)) (zero_s _) (by simp) (by simp)).mono ?_; rintro e wz ⟨rfl, hbz⟩; have HXZ := hide (Below.next (unhide HX_20) hbz (Nat.le_refl _)); clear hbz)
          go_ret
          exact ⟨rfl, unhide HXZ⟩
        | some x =>
          rw [hl] at hG
          simp only at hG
          have hlens := take_lens (unhide HZ) hl
          obtain ⟨nA, eA⟩ : ∃ X, (takeUs z us x).length = X := ⟨_, rfl⟩
          obtain ⟨nB, eB⟩ : ∃ X, (takeFs z fs x).length = X := ⟨_, rfl⟩
          rw [eA, eB] at hlens
          have HLA := hide eA; have HLB := hide eB
          have hAB : nA + nB = us.length + fs.length + (halves z x.1 31 x.2).2.length := by omega
          have hq31 := halves_len z x.1 31 x.2
          have hnA : nA ≤ 7000 := by have := unhide HVL; omega
          have hnB : nB ≤ 7000 := by have := unhide HVL; omega
          have hsum : IntKind.i64.wrap ((nA : Int) + (nB : Int)) = (nA : Int) + (nB : Int) := wrapi (by omega) (by omega)
          clear eA eB hlens
          obtain ⟨y0, y1, yf0, yf1, yl⟩ := block2 (unhide Kw_14)
          have hch6 := (unhide Ct_14).size
          go_upto_region 20 with fail
          clear y0 y1 yf0 yf1 yl
          have HX_15 := hide ((unhide HX_14).alloc (Nat.le_trans (show w.heap.size ≤ w.heap.size from Nat.le_refl _) (unhide HX_14).size) (.cells #[.int .i64 0, .slice none 0 0, .slice none 0 0] 24))
          have Kp_15 := hide (keep_alloc (unhide Kp_14) (.cells #[.int .i64 0, .slice none 0 0, .slice none 0 0] 24))
          have Kx_15 := hide (keep_alloc (unhide Kx_14) (.cells #[.int .i64 0, .slice none 0 0, .slice none 0 0] 24))
          have Kc_15 := hide (keep_alloc (unhide Kc_14) (.cells #[.int .i64 0, .slice none 0 0, .slice none 0 0] 24))
          have Kt_15 := hide (keep_alloc (unhide Kt_14) (.cells #[.int .i64 0, .slice none 0 0, .slice none 0 0] 24))
          have Kf_15 := hide (keep_alloc (unhide Kf_14) (.cells #[.int .i64 0, .slice none 0 0, .slice none 0 0] 24))
          have Ke_15 := hide (keep_alloc (unhide Ke_14) (.cells #[.int .i64 0, .slice none 0 0, .slice none 0 0] 24))
          have Kh_15 := hide (keep_alloc (unhide Kh_14) (.cells #[.int .i64 0, .slice none 0 0, .slice none 0 0] 24))
          have Kw_15 := hide (keep_alloc (unhide Kw_14) (.cells #[.int .i64 0, .slice none 0 0, .slice none 0 0] 24))
          have Ct_15 := hide ((unhide Ct_14).alloc (unhide Ct_14).size (.cells #[.int .i64 0, .slice none 0 0, .slice none 0 0] 24))
          have Kv_15 := hide (new_block wh (.cells #[.int .i64 0, .slice none 0 0, .slice none 0 0] 24))
          have hlp_v : w.heap.size < wh.heap.size := size_of (unhide Kp_14)
          have hlx_v : T < wh.heap.size := size_of (unhide Kx_14)
          have hlc_v : T2 < wh.heap.size := size_of (unhide Kc_14)
          have hlt_v : T3 < wh.heap.size := size_of (unhide Kt_14)
          have hlf_v : T3 + 1 < wh.heap.size := size_of (unhide Kf_14)
          have hle_v : T4 < wh.heap.size := size_of (unhide Ke_14)
          have hlh_v : T4 + 1 < wh.heap.size := size_of (unhide Kh_14)
          have hlw_v : T5 < wh.heap.size := size_of (unhide Kw_14)
          obtain ⟨T6, eT6⟩ : ∃ X, wh.heap.size = X := ⟨_, rfl⟩
          obtain ⟨We, eWe⟩ : ∃ X, wh.alloc (.cells #[.int .i64 0, .slice none 0 0, .slice none 0 0] 24) = X := ⟨_, rfl⟩
          rw [eT6, eWe] at Kv_15; rw [eWe] at HX_15 Kp_15 Kx_15 Kc_15 Kt_15 Kf_15 Ke_15 Kh_15 Kw_15 Ct_15; rw [eT6] at hlp_v hlx_v hlc_v hlt_v hlf_v hle_v hlh_v hlw_v hch6; rw [eT6, eWe]
          clear eT6 eWe HX_14 Kp_14 Kx_14 Kc_14 Kt_14 Kf_14 Ke_14 Kh_14 Kw_14 Ct_14
          obtain ⟨⟨p0, p1, p2⟩, ⟨pf0, pf1, pf2⟩, pl⟩ := block3 (unhide Kp_15)
          obtain ⟨y0, y1, yf0, yf1, yl⟩ := block2 (unhide Kw_15)
          have hbv : T6 < We.heap.size := size_of (unhide Kv_15)
          go_upto_region 23 with (go_at_call 16; refine (unhide HTO _ (unhide HX_15)).mono ?_; rintro e wf ⟨hh, hbf⟩; obtain ⟨sv2, rfl, hs2⟩ : ∃ sv, e = .returned (.tuple #[sv, .int .i64 x.1, .bool true]) ∧ NewS We.heap.size wf sv b (takeUs z us x) (takeFs z fs x) := (hh.elim (fun h => by rw [hl] at h; cases h.1) (fun ⟨y, sv, h1, h2, h3⟩ => by rw [hl] at h1; cases h1; exact ⟨sv, h2, h3⟩)); obtain ⟨ag, cg, ah, ch, rfl, hg1, hg2⟩ := hs2; rw [unhide HLA] at hg1; rw [unhide HLB] at hg2; have HS2 : Hid (NewS We.heap.size wf (.agg #[.int .i64 b, .slice ag nA cg, .slice ah nB ch]) b (takeUs z us x) (takeFs z fs x)) := ⟨ag, cg, ah, ch, by rw [unhide HLA, unhide HLB], by rw [unhide HLA]; exact hg1, by rw [unhide HLB]; exact hg2⟩; rw [unhide HLA, unhide HLB]; have HX_16 := hide (Below.next (unhide HX_15) hbf (by first | exact Nat.le_refl _ | (have := unhide HBA; omega))); have Kp_16 := hide (keep_below (unhide Kp_15) hbf); have Kx_16 := hide (keep_below (unhide Kx_15) hbf); have Kc_16 := hide (keep_below (unhide Kc_15) hbf); have Kt_16 := hide (keep_below (unhide Kt_15) hbf); have Kf_16 := hide (keep_below (unhide Kf_15) hbf); have Ke_16 := hide (keep_below (unhide Ke_15) hbf); have Kh_16 := hide (keep_below (unhide Kh_15) hbf); have Kw_16 := hide (keep_below (unhide Kw_15) hbf); have Kv_16 := hide (keep_below (unhide Kv_15) hbf); have Ct_16 := hide (Below.next (unhide Ct_15) hbf (Nat.le_refl _)); clear HX_15 Kp_15 Kx_15 Kc_15 Kt_15 Kf_15 Ke_15 Kh_15 Kw_15 Kv_15 Ct_15; clear hbf hh hg1 hg2 p0 p1 p2 pf0 pf1 pf2 pl y0 y1 yf0 yf1 yl)
          have HS3 := hide ((unhide HS2).below ((Below.refl _ _).alloc (Nat.le_refl _) (.cells #[.int .i64 b, .slice ag nA cg, .slice ah nB ch] 24)))
          have HX_17 := hide ((unhide HX_16).alloc (Nat.le_trans (show w.heap.size ≤ w.heap.size from Nat.le_refl _) (unhide HX_16).size) (.cells #[.int .i64 b, .slice ag nA cg, .slice ah nB ch] 24))
          have Kp_17 := hide (keep_alloc (unhide Kp_16) (.cells #[.int .i64 b, .slice ag nA cg, .slice ah nB ch] 24))
          have Kx_17 := hide (keep_alloc (unhide Kx_16) (.cells #[.int .i64 b, .slice ag nA cg, .slice ah nB ch] 24))
          have Kc_17 := hide (keep_alloc (unhide Kc_16) (.cells #[.int .i64 b, .slice ag nA cg, .slice ah nB ch] 24))
          have Kt_17 := hide (keep_alloc (unhide Kt_16) (.cells #[.int .i64 b, .slice ag nA cg, .slice ah nB ch] 24))
          have Kf_17 := hide (keep_alloc (unhide Kf_16) (.cells #[.int .i64 b, .slice ag nA cg, .slice ah nB ch] 24))
          have Ke_17 := hide (keep_alloc (unhide Ke_16) (.cells #[.int .i64 b, .slice ag nA cg, .slice ah nB ch] 24))
          have Kh_17 := hide (keep_alloc (unhide Kh_16) (.cells #[.int .i64 b, .slice ag nA cg, .slice ah nB ch] 24))
          have Kw_17 := hide (keep_alloc (unhide Kw_16) (.cells #[.int .i64 b, .slice ag nA cg, .slice ah nB ch] 24))
          have Kv_17 := hide (keep_alloc (unhide Kv_16) (.cells #[.int .i64 b, .slice ag nA cg, .slice ah nB ch] 24))
          have Ct_17 := hide ((unhide Ct_16).alloc (unhide Ct_16).size (.cells #[.int .i64 b, .slice ag nA cg, .slice ah nB ch] 24))
          have Ku_17 := hide (new_block wf (.cells #[.int .i64 b, .slice ag nA cg, .slice ah nB ch] 24))
          have hlp_u : w.heap.size < wf.heap.size := size_of (unhide Kp_16)
          have hlx_u : T < wf.heap.size := size_of (unhide Kx_16)
          have hlc_u : T2 < wf.heap.size := size_of (unhide Kc_16)
          have hlt_u : T3 < wf.heap.size := size_of (unhide Kt_16)
          have hlf_u : T3 + 1 < wf.heap.size := size_of (unhide Kf_16)
          have hle_u : T4 < wf.heap.size := size_of (unhide Ke_16)
          have hlh_u : T4 + 1 < wf.heap.size := size_of (unhide Kh_16)
          have hlw_u : T5 < wf.heap.size := size_of (unhide Kw_16)
          have hlv_u : T6 < wf.heap.size := size_of (unhide Kv_16)
          obtain ⟨T7, eT7⟩ : ∃ X, wf.heap.size = X := ⟨_, rfl⟩
          obtain ⟨Wf, eWf⟩ : ∃ X, wf.alloc (.cells #[.int .i64 b, .slice ag nA cg, .slice ah nB ch] 24) = X := ⟨_, rfl⟩
          rw [eWf] at HS3; rw [eT7, eWf] at Ku_17; rw [eWf] at HX_17 Kp_17 Kx_17 Kc_17 Kt_17 Kf_17 Ke_17 Kh_17 Kw_17 Kv_17 Ct_17; rw [eT7] at hlp_u hlx_u hlc_u hlt_u hlf_u hle_u hlh_u hlw_u hlv_u; rw [eT7, eWf]
          clear eT7 eWf HX_16 Kp_16 Kx_16 Kc_16 Kt_16 Kf_16 Ke_16 Kh_16 Kw_16 Kv_16 Ct_16
          by_cases hq5 : 5000 < us.length + fs.length + (halves z x.1 31 x.2).2.length
          · rw [if_pos hq5] at hG
            cases hG
            have hs3 : (5000 : Int) < (nA : Int) + (nB : Int) := by omega
            clear HG HS
            have hqf : ∀ w, (Op.equalIn 10000 29 (.agg #[.int .i64 9, .int .i64 0]) (.agg #[.int .i64 9, .int .i64 0])).run Try.prog w = .ok true w := fun w => by rw [flt_eq]; rfl
            obtain ⟨y0, y1, yf0, yf1, yl⟩ := block2 (unhide Kw_17)
            obtain ⟨⟨u0, u1, u2⟩, ⟨uf0, uf1, uf2⟩, ul⟩ := block3 (unhide Ku_17)
            go_upto_region 27 with (go_at_call 15; refine (f_any _ _ _).mono ?_; rintro e ws ⟨rfl, hbs⟩; have HX_18 := hide (Below.next (unhide HX_17) hbs (by first | exact Nat.le_refl _ | (have := unhide HBA; omega))); have Kp_18 := hide (keep_below (unhide Kp_17) hbs); have Kx_18 := hide (keep_below (unhide Kx_17) hbs); have Kc_18 := hide (keep_below (unhide Kc_17) hbs); have Kt_18 := hide (keep_below (unhide Kt_17) hbs); have Kf_18 := hide (keep_below (unhide Kf_17) hbs); have Ke_18 := hide (keep_below (unhide Ke_17) hbs); have Kh_18 := hide (keep_below (unhide Kh_17) hbs); have Kw_18 := hide (keep_below (unhide Kw_17) hbs); have Kv_18 := hide (keep_below (unhide Kv_17) hbs); have Ku_18 := hide (keep_below (unhide Ku_17) hbs); have Ct_18 := hide (Below.next (unhide Ct_17) hbs (Nat.le_refl _)); clear HX_17 Kp_17 Kx_17 Kc_17 Kt_17 Kf_17 Ke_17 Kh_17 Kw_17 Kv_17 Ku_17 Ct_17; clear hbs y0 y1 yf0 yf1 yl; obtain ⟨y0, y1, yf0, yf1, yl⟩ := block2 (unhide Kw_18))
            clear y0 y1 yf0 yf1 yl u0 u1 u2 uf0 uf1 uf2 ul
            have HX_19 := hide (put2_below (y0 := .int .i64 9) (y1 := .int .i64 0) (unhide HX_18) (show w.heap.size ≤ T5 by first | omega | (have := unhide HBA; omega)))
            have Kp_19 := hide ((put2_keep (y0 := .int .i64 9) (y1 := .int .i64 0) (show w.heap.size ≠ T5 by omega)).trans (unhide Kp_18))
            have Kx_19 := hide ((put2_keep (y0 := .int .i64 9) (y1 := .int .i64 0) (show T ≠ T5 by omega)).trans (unhide Kx_18))
            have Kc_19 := hide ((put2_keep (y0 := .int .i64 9) (y1 := .int .i64 0) (show T2 ≠ T5 by omega)).trans (unhide Kc_18))
            have Kt_19 := hide ((put2_keep (y0 := .int .i64 9) (y1 := .int .i64 0) (show T3 ≠ T5 by omega)).trans (unhide Kt_18))
            have Kf_19 := hide ((put2_keep (y0 := .int .i64 9) (y1 := .int .i64 0) (show T3 + 1 ≠ T5 by omega)).trans (unhide Kf_18))
            have Ke_19 := hide ((put2_keep (y0 := .int .i64 9) (y1 := .int .i64 0) (show T4 ≠ T5 by omega)).trans (unhide Ke_18))
            have Kh_19 := hide ((put2_keep (y0 := .int .i64 9) (y1 := .int .i64 0) (show T4 + 1 ≠ T5 by omega)).trans (unhide Kh_18))
            have Kw_19 := hide (put2_new (y0 := .int .i64 9) (y1 := .int .i64 0) (unhide Kw_18))
            have Kv_19 := hide ((put2_keep (y0 := .int .i64 9) (y1 := .int .i64 0) (show T6 ≠ T5 by omega)).trans (unhide Kv_18))
            have Ku_19 := hide ((put2_keep (y0 := .int .i64 9) (y1 := .int .i64 0) (show T7 ≠ T5 by omega)).trans (unhide Ku_18))
            have Ct_19 := hide (put2_below (y0 := .int .i64 9) (y1 := .int .i64 0) (unhide Ct_18) (show _ ≤ T5 by omega))
            obtain ⟨Wt, eWt⟩ : ∃ X, put2 ws (T5) (.int .i64 9) (.int .i64 0) = X := ⟨_, rfl⟩
            rw [eWt] at HX_19 Kp_19 Kx_19 Kc_19 Kt_19 Kf_19 Ke_19 Kh_19 Kw_19 Kv_19 Ku_19 Ct_19
            have eWt2 : ((ws).setCell ⟨T5, 0, none⟩ (.int .i64 9)).setCell ⟨T5, 1, none⟩ (.int .i64 0) = Wt := eWt
            rw [eWt2]
            clear eWt eWt2 HX_18 Kp_18 Kx_18 Kc_18 Kt_18 Kf_18 Ke_18 Kh_18 Kw_18 Kv_18 Ku_18 Ct_18
            obtain ⟨⟨u0, u1, u2⟩, ⟨uf0, uf1, uf2⟩, ul⟩ := block3 (unhide Ku_19)
            obtain ⟨⟨o0, o1, o2⟩, ⟨of0, of1, of2⟩, ol⟩ := block3 (unhide Kv_19)
            go_upto_region 28 with fail
            clear u0 u1 u2 uf0 uf1 uf2 ul o0 o1 o2 of0 of1 of2 ol
            have HX_20 := hide (putL_below (y0 := .int .i64 b) (y1 := .slice ag nA cg) (y2 := .slice ah nB ch) (unhide HX_19) (show w.heap.size ≤ T6 by first | omega | (have := unhide HBA; omega)))
            have Kp_20 := hide ((putL_keep (y0 := .int .i64 b) (y1 := .slice ag nA cg) (y2 := .slice ah nB ch) (show w.heap.size ≠ T6 by omega)).trans (unhide Kp_19))
            have Kx_20 := hide ((putL_keep (y0 := .int .i64 b) (y1 := .slice ag nA cg) (y2 := .slice ah nB ch) (show T ≠ T6 by omega)).trans (unhide Kx_19))
            have Kc_20 := hide ((putL_keep (y0 := .int .i64 b) (y1 := .slice ag nA cg) (y2 := .slice ah nB ch) (show T2 ≠ T6 by omega)).trans (unhide Kc_19))
            have Kt_20 := hide ((putL_keep (y0 := .int .i64 b) (y1 := .slice ag nA cg) (y2 := .slice ah nB ch) (show T3 ≠ T6 by omega)).trans (unhide Kt_19))
            have Kf_20 := hide ((putL_keep (y0 := .int .i64 b) (y1 := .slice ag nA cg) (y2 := .slice ah nB ch) (show T3 + 1 ≠ T6 by omega)).trans (unhide Kf_19))
            have Ke_20 := hide ((putL_keep (y0 := .int .i64 b) (y1 := .slice ag nA cg) (y2 := .slice ah nB ch) (show T4 ≠ T6 by omega)).trans (unhide Ke_19))
            have Kh_20 := hide ((putL_keep (y0 := .int .i64 b) (y1 := .slice ag nA cg) (y2 := .slice ah nB ch) (show T4 + 1 ≠ T6 by omega)).trans (unhide Kh_19))
            have Kw_20 := hide ((putL_keep (y0 := .int .i64 b) (y1 := .slice ag nA cg) (y2 := .slice ah nB ch) (show T5 ≠ T6 by omega)).trans (unhide Kw_19))
            have Kv_20 := hide (putL_new (y0 := .int .i64 b) (y1 := .slice ag nA cg) (y2 := .slice ah nB ch) (unhide Kv_19))
            have Ku_20 := hide ((putL_keep (y0 := .int .i64 b) (y1 := .slice ag nA cg) (y2 := .slice ah nB ch) (show T7 ≠ T6 by omega)).trans (unhide Ku_19))
            have Ct_20 := hide (putL_below (y0 := .int .i64 b) (y1 := .slice ag nA cg) (y2 := .slice ah nB ch) (unhide Ct_19) (show _ ≤ T6 by omega))
            obtain ⟨Wv, eWv⟩ : ∃ X, putL Wt (T6) (.int .i64 b) (.slice ag nA cg) (.slice ah nB ch) = X := ⟨_, rfl⟩
            rw [eWv] at HX_20 Kp_20 Kx_20 Kc_20 Kt_20 Kf_20 Ke_20 Kh_20 Kw_20 Kv_20 Ku_20 Ct_20
            have eWv2 : (((Wt).setCell ⟨T6, 0, none⟩ (.int .i64 b)).setCell ⟨T6, 1, none⟩ (.slice ag nA cg)).setCell ⟨T6, 2, none⟩ (.slice ah nB ch) = Wv := eWv
            rw [eWv2]
            clear eWv eWv2 HX_19 Kp_19 Kx_19 Kc_19 Kt_19 Kf_19 Ke_19 Kh_19 Kw_19 Kv_19 Ku_19 Ct_19
            obtain ⟨q0, q1, qf0, qf1, ql⟩ := block2 (unhide Kf_20)
            obtain ⟨y0, y1, yf0, yf1, yl⟩ := block2 (unhide Kw_20)
            obtain ⟨⟨r0, r1, r2⟩, ⟨rf0, rf1, rf2⟩, rl⟩ := block3 (unhide Kt_20)
            go_wp2_with (go_at_call 14; refine (sameSpace_same _ _ _ 0 [] [] (isS_empty (unhide HIT)) (zero_s _) (by simp) (by simp)).mono ?_; rintro e wz ⟨rfl, hbz⟩; have HXZ := hide (Below.next (unhide HX_20) hbz (Nat.le_refl _)); clear hbz)
            go_ret
            exact ⟨rfl, unhide HXZ⟩
          · rw [if_neg hq5] at hG
            cases hG
            have hs3 : ¬ (5000 : Int) < (nA : Int) + (nB : Int) := by omega
            have hqf : ∀ w, (Op.equalIn 10000 29 (.agg #[.int .i64 0, .int .i64 0]) (.agg #[.int .i64 0, .int .i64 0])).run Try.prog w = .ok true w := fun w => by rw [flt_eq]; rfl
            clear HG HS
            obtain ⟨⟨u0, u1, u2⟩, ⟨uf0, uf1, uf2⟩, ul⟩ := block3 (unhide Ku_17)
            obtain ⟨⟨o0, o1, o2⟩, ⟨of0, of1, of2⟩, ol⟩ := block3 (unhide Kv_17)
            go_upto_region 28 with fail
            clear u0 u1 u2 uf0 uf1 uf2 ul o0 o1 o2 of0 of1 of2 ol
            have HS4 := hide ((unhide HS3).putL (y0 := .int .i64 b) (y1 := .slice ag nA cg) (y2 := .slice ah nB ch) hbv)
            have HX_18 := hide (putL_below (y0 := .int .i64 b) (y1 := .slice ag nA cg) (y2 := .slice ah nB ch) (unhide HX_17) (show w.heap.size ≤ T6 by first | omega | (have := unhide HBA; omega)))
            have Kp_18 := hide ((putL_keep (y0 := .int .i64 b) (y1 := .slice ag nA cg) (y2 := .slice ah nB ch) (show w.heap.size ≠ T6 by omega)).trans (unhide Kp_17))
            have Kx_18 := hide ((putL_keep (y0 := .int .i64 b) (y1 := .slice ag nA cg) (y2 := .slice ah nB ch) (show T ≠ T6 by omega)).trans (unhide Kx_17))
            have Kc_18 := hide ((putL_keep (y0 := .int .i64 b) (y1 := .slice ag nA cg) (y2 := .slice ah nB ch) (show T2 ≠ T6 by omega)).trans (unhide Kc_17))
            have Kt_18 := hide ((putL_keep (y0 := .int .i64 b) (y1 := .slice ag nA cg) (y2 := .slice ah nB ch) (show T3 ≠ T6 by omega)).trans (unhide Kt_17))
            have Kf_18 := hide ((putL_keep (y0 := .int .i64 b) (y1 := .slice ag nA cg) (y2 := .slice ah nB ch) (show T3 + 1 ≠ T6 by omega)).trans (unhide Kf_17))
            have Ke_18 := hide ((putL_keep (y0 := .int .i64 b) (y1 := .slice ag nA cg) (y2 := .slice ah nB ch) (show T4 ≠ T6 by omega)).trans (unhide Ke_17))
            have Kh_18 := hide ((putL_keep (y0 := .int .i64 b) (y1 := .slice ag nA cg) (y2 := .slice ah nB ch) (show T4 + 1 ≠ T6 by omega)).trans (unhide Kh_17))
            have Kw_18 := hide ((putL_keep (y0 := .int .i64 b) (y1 := .slice ag nA cg) (y2 := .slice ah nB ch) (show T5 ≠ T6 by omega)).trans (unhide Kw_17))
            have Kv_18 := hide (putL_new (y0 := .int .i64 b) (y1 := .slice ag nA cg) (y2 := .slice ah nB ch) (unhide Kv_17))
            have Ku_18 := hide ((putL_keep (y0 := .int .i64 b) (y1 := .slice ag nA cg) (y2 := .slice ah nB ch) (show T7 ≠ T6 by omega)).trans (unhide Ku_17))
            have Ct_18 := hide (putL_below (y0 := .int .i64 b) (y1 := .slice ag nA cg) (y2 := .slice ah nB ch) (unhide Ct_17) (show _ ≤ T6 by omega))
            obtain ⟨Wg, eWg⟩ : ∃ X, putL Wf (T6) (.int .i64 b) (.slice ag nA cg) (.slice ah nB ch) = X := ⟨_, rfl⟩
            rw [eWg] at HS4 HX_18 Kp_18 Kx_18 Kc_18 Kt_18 Kf_18 Ke_18 Kh_18 Kw_18 Kv_18 Ku_18 Ct_18
            have eWg2 : (((Wf).setCell ⟨T6, 0, none⟩ (.int .i64 b)).setCell ⟨T6, 1, none⟩ (.slice ag nA cg)).setCell ⟨T6, 2, none⟩ (.slice ah nB ch) = Wg := eWg
            rw [eWg2]
            clear eWg eWg2 HX_17 Kp_17 Kx_17 Kc_17 Kt_17 Kf_17 Ke_17 Kh_17 Kw_17 Kv_17 Ku_17 Ct_17
            obtain ⟨q0, q1, qf0, qf1, ql⟩ := block2 (unhide Kf_18)
            obtain ⟨y0, y1, yf0, yf1, yl⟩ := block2 (unhide Kw_18)
            obtain ⟨⟨r0, r1, r2⟩, ⟨rf0, rf1, rf2⟩, rl⟩ := block3 (unhide Kt_18)
            obtain ⟨⟨o0, o1, o2⟩, ⟨of0, of1, of2⟩, ol⟩ := block3 (unhide Kv_18)
            have hxx : (x.1 == x.1) = true := by simp
            go_wp2_with (go_at_call 14; refine (sameSpace_same _ _ _ b (takeUs z us x) (takeFs z fs x) ((unhide HIT).below (unhide Ct_18)) (unhide HS4).s (by rw [unhide HLA]; omega) (by rw [unhide HLB]; omega)).mono ?_; rintro e wz ⟨rfl, hbz⟩; have HXZ := hide (Below.next (unhide HX_18) hbz (Nat.le_refl _)); clear hbz)
            go_ret
            exact ⟨rfl, unhide HXZ⟩
    · have hG := unhide HG
      unfold takeR at hG
      rw [if_pos (by rw [unhide HS]; exact hwc), unhide HS] at hG
      cases hG
      have hbe : (FC == 0) = false := by simpa using hwc
      have hbn : (FC != 0) = true := by simpa using hwc
      clear HG HS
      obtain ⟨y0, y1, yf0, yf1, yl⟩ := block2 (unhide Kw_14)
      have hch6 := (unhide Ct_14).size
      go_upto_region 20 with fail
      clear y0 y1 yf0 yf1 yl
      have HX_15 := hide ((unhide HX_14).alloc (Nat.le_trans (show w.heap.size ≤ w.heap.size from Nat.le_refl _) (unhide HX_14).size) (.cells #[.int .i64 0, .slice none 0 0, .slice none 0 0] 24))
      have Kp_15 := hide (keep_alloc (unhide Kp_14) (.cells #[.int .i64 0, .slice none 0 0, .slice none 0 0] 24))
      have Kx_15 := hide (keep_alloc (unhide Kx_14) (.cells #[.int .i64 0, .slice none 0 0, .slice none 0 0] 24))
      have Kc_15 := hide (keep_alloc (unhide Kc_14) (.cells #[.int .i64 0, .slice none 0 0, .slice none 0 0] 24))
      have Kt_15 := hide (keep_alloc (unhide Kt_14) (.cells #[.int .i64 0, .slice none 0 0, .slice none 0 0] 24))
      have Kf_15 := hide (keep_alloc (unhide Kf_14) (.cells #[.int .i64 0, .slice none 0 0, .slice none 0 0] 24))
      have Ke_15 := hide (keep_alloc (unhide Ke_14) (.cells #[.int .i64 0, .slice none 0 0, .slice none 0 0] 24))
      have Kh_15 := hide (keep_alloc (unhide Kh_14) (.cells #[.int .i64 0, .slice none 0 0, .slice none 0 0] 24))
      have Kw_15 := hide (keep_alloc (unhide Kw_14) (.cells #[.int .i64 0, .slice none 0 0, .slice none 0 0] 24))
      have Ct_15 := hide ((unhide Ct_14).alloc (unhide Ct_14).size (.cells #[.int .i64 0, .slice none 0 0, .slice none 0 0] 24))
      have Kv_15 := hide (new_block wh (.cells #[.int .i64 0, .slice none 0 0, .slice none 0 0] 24))
      have hlp_v : w.heap.size < wh.heap.size := size_of (unhide Kp_14)
      have hlx_v : T < wh.heap.size := size_of (unhide Kx_14)
      have hlc_v : T2 < wh.heap.size := size_of (unhide Kc_14)
      have hlt_v : T3 < wh.heap.size := size_of (unhide Kt_14)
      have hlf_v : T3 + 1 < wh.heap.size := size_of (unhide Kf_14)
      have hle_v : T4 < wh.heap.size := size_of (unhide Ke_14)
      have hlh_v : T4 + 1 < wh.heap.size := size_of (unhide Kh_14)
      have hlw_v : T5 < wh.heap.size := size_of (unhide Kw_14)
      obtain ⟨T6, eT6⟩ : ∃ X, wh.heap.size = X := ⟨_, rfl⟩
      obtain ⟨We, eWe⟩ : ∃ X, wh.alloc (.cells #[.int .i64 0, .slice none 0 0, .slice none 0 0] 24) = X := ⟨_, rfl⟩
      rw [eT6, eWe] at Kv_15; rw [eWe] at HX_15 Kp_15 Kx_15 Kc_15 Kt_15 Kf_15 Ke_15 Kh_15 Kw_15 Ct_15; rw [eT6] at hlp_v hlx_v hlc_v hlt_v hlf_v hle_v hlh_v hlw_v hch6; rw [eT6, eWe]
      clear eT6 eWe HX_14 Kp_14 Kx_14 Kc_14 Kt_14 Kf_14 Ke_14 Kh_14 Kw_14 Ct_14
      obtain ⟨q0, q1, qf0, qf1, ql⟩ := block2 (unhide Kf_15)
      obtain ⟨y0, y1, yf0, yf1, yl⟩ := block2 (unhide Kw_15)
      obtain ⟨⟨r0, r1, r2⟩, ⟨rf0, rf1, rf2⟩, rl⟩ := block3 (unhide Kt_15)
      go_wp2_with (go_at_call 14; refine (sameSpace_same _ _ _ 0 [] [] (isS_empty (unhide HIT)) (zero_s _) (by simp) (by simp)).mono ?_; rintro e wz ⟨rfl, hbz⟩; have HXZ := hide (Below.next (unhide HX_15) hbz (Nat.le_refl _)); clear hbz)
      go_ret
      exact ⟨rfl, unhide HXZ⟩

set_option maxRecDepth 100000 in
set_option maxHeartbeats 4000000 in
theorem takes_ok (w : World) (v : Value) (b : Int) (us fs : List Bl) (z bits : Int) (h : IsS w v b us fs) (hn : us.length ≤ 1000000000000000) (hm : fs.length ≤ 1000000000000000) (hb1 : Bnd us) (hb2 : Bnd fs) (hbits : 0 ≤ bits ∧ bits ≤ 30) :
    Calls Try.prog 3 #[v, .int .i64 z, .int .i64 bits] w fun e w' => e = .returned (.bool true) ∧ Below w.heap.size w w' := by
  have HV := hide (fun W (hW : Below w.heap.size w W) => vastSpace_any W v b us fs (h.below hW) hn hm)
  have HBG := hide (fun W => begun_any W)
  obtain ⟨VST, eVST⟩ : ∃ X, decide (6000 < us.length + fs.length) = X := ⟨_, rfl⟩
  rw [eVST] at HV
  have HVS := hide eVST
  have HI := hide h; have HB1' := hide hb1; have HB2' := hide hb2
  obtain ⟨a0, c0, a1, c1, rfl, hu, hf⟩ := h.form
  obtain ⟨n, en⟩ : ∃ n, us.length = n := ⟨_, rfl⟩
  obtain ⟨m, em⟩ : ∃ m, fs.length = m := ⟨_, rfl⟩
  rw [en, em] at HV HI ⊢
  have HNU := hide en; have HNF := hide em
  have HX := hide ((Below.refl w.heap.size w).alloc (Nat.le_refl _) (.cells #[.int .i64 b, .slice a0 n c0, .slice a1 m c1] 24))
  have HP := hide (new_block w (.cells #[.int .i64 b, .slice a0 n c0, .slice a1 m c1] 24))
  obtain ⟨W0, e0⟩ : ∃ W, w.alloc (.cells #[.int .i64 b, .slice a0 n c0, .slice a1 m c1] 24) = W := ⟨_, rfl⟩
  rw [e0] at HX HP
  have HE := hide e0
  clear h hu hf en em e0 hb1 hb2 eVST hn hm
  go_enter Try.func3, Try.ntmps3
  go_upto_region 1 with fail
  rw [unhide HE]
  clear HE
  go_upto_region 3 with (go_at_call 7; refine (unhide HBG _).mono ?_; rintro e w1 ⟨rfl, hb1⟩; have HX_1 := hide (Below.next (unhide HX) hb1 (by first | exact Nat.le_refl _ | (have := unhide HBA; omega))); have Kp_1 := hide (keep_below (unhide HP) hb1); clear HX HP; clear hb1)
  obtain ⟨⟨p0, p1, p2⟩, ⟨pf0, pf1, pf2⟩, pl⟩ := block3 (unhide Kp_1)
  cases VST with
  | true =>
    go_wp2_with (go_at_call 8; refine (unhide HV _ (unhide HX_1)).mono ?_; rintro e w2 ⟨rfl, hb2⟩; have HX2 := hide (Below.next (unhide HX_1) hb2 (Nat.le_refl _)); clear hb2)
    go_ret
    exact ⟨rfl, unhide HX2⟩
  | false =>
    have hv : us.length + fs.length ≤ 6000 := by have := of_decide_eq_false (unhide HVS); omega
    have HVL := hide hv
    have hn : n ≤ 6000 := by have := unhide HNU; omega
    have hm : m ≤ 6000 := by have := unhide HNF; omega
    have HOW : Hid (∀ W, Below w.heap.size w W → Calls Try.prog 9 #[.agg #[.int .i64 b, .slice a0 n c0, .slice a1 m c1]] W fun e w' => ∃ sv, e = .returned sv ∧ NewS W.heap.size w' sv b us fs ∧ Below W.heap.size W w') := fun W hW => ownSpace_any W _ b us fs ((unhide HI).below hW) (by omega) (by omega)
    have HSF : Hid (∀ W, Below w.heap.size w W → Calls Try.prog 13 #[.agg #[.int .i64 b, .slice a0 n c0, .slice a1 m c1]] W fun e w' => e = .returned (faultV (spaceF b us fs)) ∧ Below W.heap.size W w') := fun W hW => refFault_any W _ b us fs ((unhide HI).below hW) (by omega) (by omega)
    have HCK : Hid (∀ W sv, IsS W sv b us fs → Calls Try.prog 10 #[sv] W fun e w' => e = .returned (faultV (spaceF b us fs)) ∧ Below W.heap.size W w') := fun W sv hs => check_any W sv b us fs hs (by omega) (by omega) (unhide HB1') (unhide HB2')
    have HTK : Hid (∀ W sv, IsS W sv b us fs → Calls Try.prog 11 #[sv, .int .i64 z] W fun e w' => ∃ au nu cu af nf cf, e = .returned (.tuple #[.agg #[.int .i64 (takeR b us fs z).2.2.1, .slice au nu cu, .slice af nf cf], .int .i64 (takeR b us fs z).2.1, .agg #[.int .i64 (takeR b us fs z).1.1, .int .i64 (takeR b us fs z).1.2]]) ∧ IsS w' (.agg #[.int .i64 (takeR b us fs z).2.2.1, .slice au nu cu, .slice af nf cf]) (takeR b us fs z).2.2.1 (takeR b us fs z).2.2.2.1 (takeR b us fs z).2.2.2.2 ∧ Below W.heap.size W w') := fun W sv hs => take_any W sv b us fs z hs (by omega) (by omega) (unhide HB1') (unhide HB2')
    have HNW : Hid (∀ W, Calls Try.prog 12 #[.int .i64 bits] W fun e w' => ∃ ea en ec eb em ed, e = .returned (.tuple #[.agg #[.int .i64 bits, .slice ea en ec, .slice eb em ed], .agg #[.int .i64 0, .int .i64 0]]) ∧ IsS w' (.agg #[.int .i64 bits, .slice ea en ec, .slice eb em ed]) bits [] [(0, (2 : Int) ^ bits.toNat)] ∧ Below W.heap.size W w') := fun W => (new_ok W bits hbits.1 hbits.2).mono fun e w' ⟨sv, h1, ⟨a, c, a', c', hv, h3, h4⟩, h2⟩ => by subst hv; exact ⟨_, _, _, _, _, _, h1, ⟨_, _, rfl, h3.1, h4.1⟩, h2⟩
    obtain ⟨⟨⟨FC, FA⟩, AT, b', us', fs'⟩, eG⟩ : ∃ G, takeR b us fs z = G := ⟨_, rfl⟩
    rw [eG] at HTK
    simp only at HTK
    have HG := hide eG
    obtain ⟨⟨wc, wa⟩, eS⟩ : ∃ S, spaceF b us fs = S := ⟨_, rfl⟩
    rw [eS] at HSF HCK
    have HS := hide eS
    have hqw : ∀ w, (Op.equalIn 10000 29 (.agg #[.int .i64 wc, .int .i64 wa]) (.agg #[.int .i64 wc, .int .i64 wa])).run Try.prog w = .ok true w := fun w => by rw [flt_eq]; simp
    clear eG eS HB1' HB2' HVS HBG hv
    go_upto_region 5 with (go_at_call 8; refine (unhide HV _ (unhide HX_1)).mono ?_; rintro e w2 ⟨rfl, hb2⟩; have HX_2 := hide (Below.next (unhide HX_1) hb2 (by first | exact Nat.le_refl _ | (have := unhide HBA; omega))); have Kp_2 := hide (keep_below (unhide Kp_1) hb2); clear HX_1 Kp_1; clear hb2 HV p0 p1 p2 pf0 pf1 pf2 pl)
    obtain ⟨⟨p0, p1, p2⟩, ⟨pf0, pf1, pf2⟩, pl⟩ := block3 (unhide Kp_2)
    go_upto_region 6 with (go_at_call 9; refine (unhide HOW _ (unhide HX_2)).mono ?_; rintro e w3 ⟨sv, rfl, hs3, hb3⟩; obtain ⟨a3, c3, a4, c4, rfl, hu3, hf3⟩ := hs3; have HI3 : Hid (IsS w3 (.agg #[.int .i64 b, .slice a3 us.length c3, .slice a4 fs.length c4]) b us fs) := ⟨_, _, rfl, hu3.1, hf3.1⟩; have HX_3 := hide (Below.next (unhide HX_2) hb3 (by first | exact Nat.le_refl _ | (have := unhide HBA; omega))); have Kp_3 := hide (keep_below (unhide Kp_2) hb3); clear HX_2 Kp_2; clear hu3 hf3 hb3 p0 p1 p2 pf0 pf1 pf2 pl)
    have HX_4 := hide ((unhide HX_3).alloc (Nat.le_trans (show w.heap.size ≤ w.heap.size from Nat.le_refl _) (unhide HX_3).size) (.cells #[.int .i64 b, .slice a3 us.length c3, .slice a4 fs.length c4] 24))
    have Kp_4 := hide (keep_alloc (unhide Kp_3) (.cells #[.int .i64 b, .slice a3 us.length c3, .slice a4 fs.length c4] 24))
    have Fx_4 := hide ((unhide HI3).below ((Below.refl _ _).alloc (Nat.le_refl _) (.cells #[.int .i64 b, .slice a3 us.length c3, .slice a4 fs.length c4] 24)))
    have Kx_4 := hide (new_block w3 (.cells #[.int .i64 b, .slice a3 us.length c3, .slice a4 fs.length c4] 24))
    have hlp_x : w.heap.size < w3.heap.size := size_of (unhide Kp_3)
    obtain ⟨T, eT⟩ : ∃ X, w3.heap.size = X := ⟨_, rfl⟩
    obtain ⟨W4, eW4⟩ : ∃ X, w3.alloc (.cells #[.int .i64 b, .slice a3 us.length c3, .slice a4 fs.length c4] 24) = X := ⟨_, rfl⟩
    rw [eT, eW4] at Kx_4; rw [eW4] at HX_4 Kp_4 Fx_4; rw [eT] at hlp_x; rw [eT, eW4]
    clear eT eW4 HX_3 Kp_3 HI3
    obtain ⟨⟨q0, q1, q2⟩, ⟨qf0, qf1, qf2⟩, ql⟩ := block3 (unhide Kx_4)
    go_upto_region 7 with (go_at_call 10; refine (unhide HCK _ _ (unhide Fx_4)).mono ?_; rintro e w5 ⟨he, hb5⟩; obtain rfl : e = .returned (.agg #[.int .i64 wc, .int .i64 wa]) := he; have HX_5 := hide (Below.next (unhide HX_4) hb5 (by first | exact Nat.le_refl _ | (have := unhide HBA; omega))); have Kp_5 := hide (keep_below (unhide Kp_4) hb5); have Kx_5 := hide (keep_below (unhide Kx_4) hb5); have Fx_5 := hide ((unhide Fx_4).below hb5); clear HX_4 Kp_4 Kx_4 Fx_4; clear hb5 q0 q1 q2 qf0 qf1 qf2 ql)
    have HX_6 := hide ((unhide HX_5).alloc (Nat.le_trans (show w.heap.size ≤ w.heap.size from Nat.le_refl _) (unhide HX_5).size) (.cells #[.int .i64 wc, .int .i64 wa] 29))
    have Kp_6 := hide (keep_alloc (unhide Kp_5) (.cells #[.int .i64 wc, .int .i64 wa] 29))
    have Kx_6 := hide (keep_alloc (unhide Kx_5) (.cells #[.int .i64 wc, .int .i64 wa] 29))
    have Fx_6 := hide ((unhide Fx_5).below ((Below.refl _ _).alloc (Nat.le_refl _) (.cells #[.int .i64 wc, .int .i64 wa] 29)))
    have Kc_6 := hide (new_block w5 (.cells #[.int .i64 wc, .int .i64 wa] 29))
    have hlp_c : w.heap.size < w5.heap.size := size_of (unhide Kp_5)
    have hlx_c : T < w5.heap.size := size_of (unhide Kx_5)
    obtain ⟨T2, eT2⟩ : ∃ X, w5.heap.size = X := ⟨_, rfl⟩
    obtain ⟨W6, eW6⟩ : ∃ X, w5.alloc (.cells #[.int .i64 wc, .int .i64 wa] 29) = X := ⟨_, rfl⟩
    rw [eT2, eW6] at Kc_6; rw [eW6] at HX_6 Kp_6 Kx_6 Fx_6; rw [eT2] at hlp_c hlx_c; rw [eT2, eW6]
    clear eT2 eW6 HX_5 Kp_5 Kx_5 Fx_5
    obtain ⟨⟨q0, q1, q2⟩, ⟨qf0, qf1, qf2⟩, ql⟩ := block3 (unhide Kx_6)
    go_upto_region 8 with (go_at_call 11; refine (unhide HTK _ _ (unhide Fx_6)).mono ?_; rintro e w7 ⟨au, nu, cu, af, nf, cf, rfl, hs7, hb7⟩; have HI7 := hide hs7; have HX_7 := hide (Below.next (unhide HX_6) hb7 (by first | exact Nat.le_refl _ | (have := unhide HBA; omega))); have Kp_7 := hide (keep_below (unhide Kp_6) hb7); have Kx_7 := hide (keep_below (unhide Kx_6) hb7); have Kc_7 := hide (keep_below (unhide Kc_6) hb7); have Fx_7 := hide ((unhide Fx_6).below hb7); clear HX_6 Kp_6 Kx_6 Kc_6 Fx_6; clear hs7 hb7 q0 q1 q2 qf0 qf1 qf2 ql)
    obtain ⟨W8, eW8, hBW8, k0_8, k1_8⟩ := two_new w7 (.cells #[.int .i64 b', .slice au nu cu, .slice af nf cf] 24) (.cells #[.int .i64 FC, .int .i64 FA] 29)
    rw [eW8]
    clear eW8
    have hlp_t : w.heap.size < w7.heap.size := size_of (unhide Kp_7)
    have hlx_t : T < w7.heap.size := size_of (unhide Kx_7)
    have hlc_t : T2 < w7.heap.size := size_of (unhide Kc_7)
    (have HX_8 := hide (Below.next (unhide HX_7) hBW8 (by first | exact Nat.le_refl _ | (have := unhide HBA; omega))); have Kp_8 := hide (keep_below (unhide Kp_7) hBW8); have Kx_8 := hide (keep_below (unhide Kx_7) hBW8); have Kc_8 := hide (keep_below (unhide Kc_7) hBW8); have Fx_8 := hide ((unhide Fx_7).below hBW8); have Ft_8 := hide ((unhide HI7).below hBW8); clear HX_7 Kp_7 Kx_7 Kc_7 Fx_7 HI7)
    obtain ⟨T3, eT3⟩ : ∃ X, w7.heap.size = X := ⟨_, rfl⟩
    rw [eT3] at k0_8 k1_8 hlp_t hlx_t hlc_t ⊢
    have Kt_8 := hide k0_8
    have Kf_8 := hide k1_8
    clear eT3 hBW8 k0_8 k1_8
    go_upto_region 9 with (go_at_call 12; refine (unhide HNW _).mono ?_; rintro e w9 ⟨ea, en, ec, eb, em, ed, rfl, hs9, hb9⟩; have HI9 := hide hs9; have HX_9 := hide (Below.next (unhide HX_8) hb9 (by first | exact Nat.le_refl _ | (have := unhide HBA; omega))); have Kp_9 := hide (keep_below (unhide Kp_8) hb9); have Kx_9 := hide (keep_below (unhide Kx_8) hb9); have Kc_9 := hide (keep_below (unhide Kc_8) hb9); have Kt_9 := hide (keep_below (unhide Kt_8) hb9); have Kf_9 := hide (keep_below (unhide Kf_8) hb9); have Fx_9 := hide ((unhide Fx_8).below hb9); have Ft_9 := hide ((unhide Ft_8).below hb9); clear HX_8 Kp_8 Kx_8 Kc_8 Kt_8 Kf_8 Fx_8 Ft_8; clear hs9 hb9)
    obtain ⟨Wa, eWa, hBWa, k0_10, k1_10⟩ := two_new w9 (.cells #[.int .i64 bits, .slice ea en ec, .slice eb em ed] 24) (.cells #[.int .i64 0, .int .i64 0] 29)
    rw [eWa]
    clear eWa
    have hlp_e : w.heap.size < w9.heap.size := size_of (unhide Kp_9)
    have hlx_e : T < w9.heap.size := size_of (unhide Kx_9)
    have hlc_e : T2 < w9.heap.size := size_of (unhide Kc_9)
    have hlt_e : T3 < w9.heap.size := size_of (unhide Kt_9)
    have hlf_e : T3 + 1 < w9.heap.size := size_of (unhide Kf_9)
    (have HX_10 := hide (Below.next (unhide HX_9) hBWa (by first | exact Nat.le_refl _ | (have := unhide HBA; omega))); have Kp_10 := hide (keep_below (unhide Kp_9) hBWa); have Kx_10 := hide (keep_below (unhide Kx_9) hBWa); have Kc_10 := hide (keep_below (unhide Kc_9) hBWa); have Kt_10 := hide (keep_below (unhide Kt_9) hBWa); have Kf_10 := hide (keep_below (unhide Kf_9) hBWa); have Fx_10 := hide ((unhide Fx_9).below hBWa); have Ft_10 := hide ((unhide Ft_9).below hBWa); have Fe_10 := hide ((unhide HI9).below hBWa); clear HX_9 Kp_9 Kx_9 Kc_9 Kt_9 Kf_9 Fx_9 Ft_9 HI9)
    obtain ⟨T4, eT4⟩ : ∃ X, w9.heap.size = X := ⟨_, rfl⟩
    rw [eT4] at k0_10 k1_10 hlp_e hlx_e hlc_e hlt_e hlf_e ⊢
    have Ke_10 := hide k0_10
    have Kh_10 := hide k1_10
    clear eT4 hBWa k0_10 k1_10
    have HIT := hide (unhide Ft_10)
    have HCH := hide (Below.refl Wa.heap.size Wa)
    obtain ⟨⟨p0, p1, p2⟩, ⟨pf0, pf1, pf2⟩, pl⟩ := block3 (unhide Kp_10)
    go_upto_region 10 with (go_at_call 13; refine (unhide HSF _ (unhide HX_10)).mono ?_; rintro e wb ⟨he, hbb⟩; obtain rfl : e = .returned (.agg #[.int .i64 wc, .int .i64 wa]) := he; have HX_11 := hide (Below.next (unhide HX_10) hbb (by first | exact Nat.le_refl _ | (have := unhide HBA; omega))); have Kp_11 := hide (keep_below (unhide Kp_10) hbb); have Kx_11 := hide (keep_below (unhide Kx_10) hbb); have Kc_11 := hide (keep_below (unhide Kc_10) hbb); have Kt_11 := hide (keep_below (unhide Kt_10) hbb); have Kf_11 := hide (keep_below (unhide Kf_10) hbb); have Ke_11 := hide (keep_below (unhide Ke_10) hbb); have Kh_11 := hide (keep_below (unhide Kh_10) hbb); have Fx_11 := hide ((unhide Fx_10).below hbb); have Ft_11 := hide ((unhide Ft_10).below hbb); have Fe_11 := hide ((unhide Fe_10).below hbb); have Ct_11 := hide (Below.next (unhide HCH) hbb (Nat.le_refl _)); clear HX_10 Kp_10 Kx_10 Kc_10 Kt_10 Kf_10 Ke_10 Kh_10 Fx_10 Ft_10 Fe_10 HCH; clear hbb p0 p1 p2 pf0 pf1 pf2 pl)
    have hch5 := (unhide Ct_11).size
    have HX_12 := hide ((unhide HX_11).alloc (Nat.le_trans (show w.heap.size ≤ w.heap.size from Nat.le_refl _) (unhide HX_11).size) (.cells #[.int .i64 wc, .int .i64 wa] 29))
    have Kp_12 := hide (keep_alloc (unhide Kp_11) (.cells #[.int .i64 wc, .int .i64 wa] 29))
    have Kx_12 := hide (keep_alloc (unhide Kx_11) (.cells #[.int .i64 wc, .int .i64 wa] 29))
    have Kc_12 := hide (keep_alloc (unhide Kc_11) (.cells #[.int .i64 wc, .int .i64 wa] 29))
    have Kt_12 := hide (keep_alloc (unhide Kt_11) (.cells #[.int .i64 wc, .int .i64 wa] 29))
    have Kf_12 := hide (keep_alloc (unhide Kf_11) (.cells #[.int .i64 wc, .int .i64 wa] 29))
    have Ke_12 := hide (keep_alloc (unhide Ke_11) (.cells #[.int .i64 wc, .int .i64 wa] 29))
    have Kh_12 := hide (keep_alloc (unhide Kh_11) (.cells #[.int .i64 wc, .int .i64 wa] 29))
    have Fx_12 := hide ((unhide Fx_11).below ((Below.refl _ _).alloc (Nat.le_refl _) (.cells #[.int .i64 wc, .int .i64 wa] 29)))
    have Ft_12 := hide ((unhide Ft_11).below ((Below.refl _ _).alloc (Nat.le_refl _) (.cells #[.int .i64 wc, .int .i64 wa] 29)))
    have Fe_12 := hide ((unhide Fe_11).below ((Below.refl _ _).alloc (Nat.le_refl _) (.cells #[.int .i64 wc, .int .i64 wa] 29)))
    have Ct_12 := hide ((unhide Ct_11).alloc (unhide Ct_11).size (.cells #[.int .i64 wc, .int .i64 wa] 29))
    have Kw_12 := hide (new_block wb (.cells #[.int .i64 wc, .int .i64 wa] 29))
    have hlp_w : w.heap.size < wb.heap.size := size_of (unhide Kp_11)
    have hlx_w : T < wb.heap.size := size_of (unhide Kx_11)
    have hlc_w : T2 < wb.heap.size := size_of (unhide Kc_11)
    have hlt_w : T3 < wb.heap.size := size_of (unhide Kt_11)
    have hlf_w : T3 + 1 < wb.heap.size := size_of (unhide Kf_11)
    have hle_w : T4 < wb.heap.size := size_of (unhide Ke_11)
    have hlh_w : T4 + 1 < wb.heap.size := size_of (unhide Kh_11)
    obtain ⟨T5, eT5⟩ : ∃ X, wb.heap.size = X := ⟨_, rfl⟩
    obtain ⟨Wc, eWc⟩ : ∃ X, wb.alloc (.cells #[.int .i64 wc, .int .i64 wa] 29) = X := ⟨_, rfl⟩
    rw [eT5, eWc] at Kw_12; rw [eWc] at HX_12 Kp_12 Kx_12 Kc_12 Kt_12 Kf_12 Ke_12 Kh_12 Fx_12 Ft_12 Fe_12 Ct_12; rw [eT5] at hlp_w hlx_w hlc_w hlt_w hlf_w hle_w hlh_w hch5; rw [eT5, eWc]
    clear eT5 eWc HX_11 Kp_11 Kx_11 Kc_11 Kt_11 Kf_11 Ke_11 Kh_11 Fx_11 Ft_11 Fe_11 Ct_11
    obtain ⟨⟨p0, p1, p2⟩, ⟨pf0, pf1, pf2⟩, pl⟩ := block3 (unhide Kp_12)
    obtain ⟨⟨q0, q1, q2⟩, ⟨qf0, qf1, qf2⟩, ql⟩ := block3 (unhide Kx_12)
    obtain ⟨r0, r1, rf0, rf1, rl⟩ := block2 (unhide Kc_12)
    obtain ⟨y0, y1, yf0, yf1, yl⟩ := block2 (unhide Kw_12)
    have hbt : (wc == wc) = true := by simp
    go_upto_region 12 with (go_at_call 14; refine (sameSpace_same _ _ _ b us fs (unhide Fx_12) ((unhide HI).below (unhide HX_12)) (by have := unhide HVL; omega) (by have := unhide HVL; omega)).mono ?_; rintro e wd ⟨rfl, hbd⟩; have HX_13 := hide (Below.next (unhide HX_12) hbd (by first | exact Nat.le_refl _ | (have := unhide HBA; omega))); have Kp_13 := hide (keep_below (unhide Kp_12) hbd); have Kx_13 := hide (keep_below (unhide Kx_12) hbd); have Kc_13 := hide (keep_below (unhide Kc_12) hbd); have Kt_13 := hide (keep_below (unhide Kt_12) hbd); have Kf_13 := hide (keep_below (unhide Kf_12) hbd); have Ke_13 := hide (keep_below (unhide Ke_12) hbd); have Kh_13 := hide (keep_below (unhide Kh_12) hbd); have Kw_13 := hide (keep_below (unhide Kw_12) hbd); have Fx_13 := hide ((unhide Fx_12).below hbd); have Ft_13 := hide ((unhide Ft_12).below hbd); have Fe_13 := hide ((unhide Fe_12).below hbd); have Ct_13 := hide (Below.next (unhide Ct_12) hbd (Nat.le_refl _)); clear HX_12 Kp_12 Kx_12 Kc_12 Kt_12 Kf_12 Ke_12 Kh_12 Kw_12 Fx_12 Ft_12 Fe_12 Ct_12; clear hbd p0 p1 p2 pf0 pf1 pf2 pl q0 q1 q2 qf0 qf1 qf2 ql r0 r1 rf0 rf1 rl y0 y1 yf0 yf1 yl)
    have hb0 : ¬ bits < 0 := by omega
    have hb30 : ¬ 30 < bits := by omega
    have hshift := shift30 hbits.1 hbits.2
    obtain ⟨hpu1, hpu2⟩ := pow30 hbits.1 hbits.2
    obtain ⟨UU, eUU⟩ : ∃ X, (2 : Int) ^ bits.toNat = X := ⟨_, rfl⟩
    rw [eUU] at hshift hpu1 hpu2
    have hsh : IntKind.i64.wrap UU = UU := wrapi (by omega) (by omega)
    have HFE : Hid (IsS wd (.agg #[.int .i64 bits, .slice ea en ec, .slice eb em ed]) bits [] [(0, UU)]) := by have h8 := unhide Fe_13; rw [eUU] at h8; exact h8
    have HSS : Hid (∀ W, Below wd.heap.size wd W → (W.cell? ⟨T4 + 1, 0, none⟩ = some (.int .i64 0) ∧ W.cell? ⟨T4, 0, none⟩ = some (.int .i64 bits) ∧ W.cell? ⟨T4, 1, none⟩ = some (.slice ea en ec) ∧ W.cell? ⟨T4, 2, none⟩ = some (.slice eb em ed))) := fun W hW => ⟨(block2 (keep_below (unhide Kh_13) hW)).1, (block3 (keep_below (unhide Ke_13) hW)).1⟩
    have HIL : Hid (IsS (wd.alloc (.cells #[.int .i64 0, .int .i64 UU] 38)).drew (.agg #[.int .i64 bits, .slice none 0 0, .slice (some ⟨wd.heap.size, 0, none⟩) 1 1]) bits [] [(0, UU)]) := ⟨_, _, rfl, isl_nil _, (isl_one kb wd (0, UU)).below (Below.refl _ _).drew⟩
    go_upto_region 15 with fail
    obtain ⟨x0, u0, u1, u2⟩ := unhide HSS _ (Below.refl _ _)
    go_region_held3 (fun W => (W.cell? ⟨T4 + 1, 0, none⟩ = some (.int .i64 0) ∧ W.cell? ⟨T4, 0, none⟩ = some (.int .i64 bits) ∧ W.cell? ⟨T4, 1, none⟩ = some (.slice ea en ec) ∧ W.cell? ⟨T4, 2, none⟩ = some (.slice eb em ed)))
      (first | with_reducible exact unhide HSS _ (Below.refl _ _).drew | with_reducible exact unhide HSS _ ((Below.refl wd.heap.size wd).alloc (Nat.le_refl _) _).drew | with_reducible exact unhide HSS _ (unhide HY6))
      (first
        | (go_at_call 14; refine (sameSpace_same _ _ _ bits [] [(0, UU)] ((unhide HFE).below ((Below.refl wd.heap.size wd).alloc (Nat.le_refl _) _).drew) (unhide HIL) (by simp) (by simp)).mono ?_; rintro e wh ⟨rfl, hbh⟩; have HY6 : Hid (Below wd.heap.size wd wh) := Below.next ((Below.refl wd.heap.size wd).alloc (Nat.le_refl _) _).drew hbh (Nat.le_refl _); clear hbh))
    all_goals clear x0 u0 u1 u2
    all_goals try clear HSS HIL
    (have HX_14 := hide (Below.next (unhide HX_13) (unhide HY6) (by first | exact Nat.le_refl _ | (have := unhide HBA; omega))); have Kp_14 := hide (keep_below (unhide Kp_13) (unhide HY6)); have Kx_14 := hide (keep_below (unhide Kx_13) (unhide HY6)); have Kc_14 := hide (keep_below (unhide Kc_13) (unhide HY6)); have Kt_14 := hide (keep_below (unhide Kt_13) (unhide HY6)); have Kf_14 := hide (keep_below (unhide Kf_13) (unhide HY6)); have Ke_14 := hide (keep_below (unhide Ke_13) (unhide HY6)); have Kh_14 := hide (keep_below (unhide Kh_13) (unhide HY6)); have Kw_14 := hide (keep_below (unhide Kw_13) (unhide HY6)); have Ft_14 := hide ((unhide Ft_13).below (unhide HY6)); have Fe_14 := hide ((unhide Fe_13).below (unhide HY6)); have Ct_14 := hide (Below.next (unhide Ct_13) (unhide HY6) (Nat.le_refl _)); clear HX_13 Kp_13 Kx_13 Kc_13 Kt_13 Kf_13 Ke_13 Kh_13 Kw_13 Ft_13 Fe_13 Ct_13)
    go_upto_region 17 with fail
    by_cases hwc : wc = 0
    · have hz : spaceF b us fs = (0, 0) := spaceF_zero (by rw [unhide HS]; exact hwc)
      have hwa : wa = 0 := by have := (unhide HS).symm.trans hz; exact congrArg Prod.snd this
      subst hwc hwa
      have hbe : ((0 : Int) == 0) = true := rfl
      have HZ := hide hz
      have hG := unhide HG
      unfold takeR at hG
      rw [if_neg (by rw [hz]; simp)] at hG
      clear hz
      by_cases hr : z < 1 ∨ 1073741824 < z
      · rw [if_pos hr] at hG
        cases hG
        clear HG HS
        by_cases hlo : z < 1
        · skip
          have hqf : ∀ w, (Op.equalIn 10000 29 (.agg #[.int .i64 3, .int .i64 (-1)]) (.agg #[.int .i64 3, .int .i64 (-1)])).run Try.prog w = .ok true w := fun w => by rw [flt_eq]; rfl
          obtain ⟨y0, y1, yf0, yf1, yl⟩ := block2 (unhide Kw_14)
          go_upto_region 19 with (go_at_call 15; refine (f_any _ _ _).mono ?_; rintro e ws ⟨rfl, hbs⟩; have HX_15 := hide (Below.next (unhide HX_14) hbs (by first | exact Nat.le_refl _ | (have := unhide HBA; omega))); have Kp_15 := hide (keep_below (unhide Kp_14) hbs); have Kx_15 := hide (keep_below (unhide Kx_14) hbs); have Kc_15 := hide (keep_below (unhide Kc_14) hbs); have Kt_15 := hide (keep_below (unhide Kt_14) hbs); have Kf_15 := hide (keep_below (unhide Kf_14) hbs); have Ke_15 := hide (keep_below (unhide Ke_14) hbs); have Kh_15 := hide (keep_below (unhide Kh_14) hbs); have Kw_15 := hide (keep_below (unhide Kw_14) hbs); have Ct_15 := hide (Below.next (unhide Ct_14) hbs (Nat.le_refl _)); clear HX_14 Kp_14 Kx_14 Kc_14 Kt_14 Kf_14 Ke_14 Kh_14 Kw_14 Ct_14; clear hbs y0 y1 yf0 yf1 yl; obtain ⟨y0, y1, yf0, yf1, yl⟩ := block2 (unhide Kw_15))
          clear y0 y1 yf0 yf1 yl
          have HX_16 := hide (put2_below (y0 := .int .i64 3) (y1 := .int .i64 (-1)) (unhide HX_15) (show w.heap.size ≤ T5 by first | omega | (have := unhide HBA; omega)))
          have Kp_16 := hide ((put2_keep (y0 := .int .i64 3) (y1 := .int .i64 (-1)) (show w.heap.size ≠ T5 by omega)).trans (unhide Kp_15))
          have Kx_16 := hide ((put2_keep (y0 := .int .i64 3) (y1 := .int .i64 (-1)) (show T ≠ T5 by omega)).trans (unhide Kx_15))
          have Kc_16 := hide ((put2_keep (y0 := .int .i64 3) (y1 := .int .i64 (-1)) (show T2 ≠ T5 by omega)).trans (unhide Kc_15))
          have Kt_16 := hide ((put2_keep (y0 := .int .i64 3) (y1 := .int .i64 (-1)) (show T3 ≠ T5 by omega)).trans (unhide Kt_15))
          have Kf_16 := hide ((put2_keep (y0 := .int .i64 3) (y1 := .int .i64 (-1)) (show T3 + 1 ≠ T5 by omega)).trans (unhide Kf_15))
          have Ke_16 := hide ((put2_keep (y0 := .int .i64 3) (y1 := .int .i64 (-1)) (show T4 ≠ T5 by omega)).trans (unhide Ke_15))
          have Kh_16 := hide ((put2_keep (y0 := .int .i64 3) (y1 := .int .i64 (-1)) (show T4 + 1 ≠ T5 by omega)).trans (unhide Kh_15))
          have Kw_16 := hide (put2_new (y0 := .int .i64 3) (y1 := .int .i64 (-1)) (unhide Kw_15))
          have Ct_16 := hide (put2_below (y0 := .int .i64 3) (y1 := .int .i64 (-1)) (unhide Ct_15) (show _ ≤ T5 by omega))
          obtain ⟨Wt, eWt⟩ : ∃ X, put2 ws (T5) (.int .i64 3) (.int .i64 (-1)) = X := ⟨_, rfl⟩
          rw [eWt] at HX_16 Kp_16 Kx_16 Kc_16 Kt_16 Kf_16 Ke_16 Kh_16 Kw_16 Ct_16
          have eWt2 : ((ws).setCell ⟨T5, 0, none⟩ (.int .i64 3)).setCell ⟨T5, 1, none⟩ (.int .i64 (-1)) = Wt := eWt
          rw [eWt2]
          clear eWt eWt2 HX_15 Kp_15 Kx_15 Kc_15 Kt_15 Kf_15 Ke_15 Kh_15 Kw_15 Ct_15
          obtain ⟨y0, y1, yf0, yf1, yl⟩ := block2 (unhide Kw_16)
          have hch6 := (unhide Ct_16).size
          go_upto_region 20 with fail
          clear y0 y1 yf0 yf1 yl
          have HX_17 := hide ((unhide HX_16).alloc (Nat.le_trans (show w.heap.size ≤ w.heap.size from Nat.le_refl _) (unhide HX_16).size) (.cells #[.int .i64 0, .slice none 0 0, .slice none 0 0] 24))
          have Kp_17 := hide (keep_alloc (unhide Kp_16) (.cells #[.int .i64 0, .slice none 0 0, .slice none 0 0] 24))
          have Kx_17 := hide (keep_alloc (unhide Kx_16) (.cells #[.int .i64 0, .slice none 0 0, .slice none 0 0] 24))
          have Kc_17 := hide (keep_alloc (unhide Kc_16) (.cells #[.int .i64 0, .slice none 0 0, .slice none 0 0] 24))
          have Kt_17 := hide (keep_alloc (unhide Kt_16) (.cells #[.int .i64 0, .slice none 0 0, .slice none 0 0] 24))
          have Kf_17 := hide (keep_alloc (unhide Kf_16) (.cells #[.int .i64 0, .slice none 0 0, .slice none 0 0] 24))
          have Ke_17 := hide (keep_alloc (unhide Ke_16) (.cells #[.int .i64 0, .slice none 0 0, .slice none 0 0] 24))
          have Kh_17 := hide (keep_alloc (unhide Kh_16) (.cells #[.int .i64 0, .slice none 0 0, .slice none 0 0] 24))
          have Kw_17 := hide (keep_alloc (unhide Kw_16) (.cells #[.int .i64 0, .slice none 0 0, .slice none 0 0] 24))
          have Ct_17 := hide ((unhide Ct_16).alloc (unhide Ct_16).size (.cells #[.int .i64 0, .slice none 0 0, .slice none 0 0] 24))
          have Kv_17 := hide (new_block Wt (.cells #[.int .i64 0, .slice none 0 0, .slice none 0 0] 24))
          have hlp_v : w.heap.size < Wt.heap.size := size_of (unhide Kp_16)
          have hlx_v : T < Wt.heap.size := size_of (unhide Kx_16)
          have hlc_v : T2 < Wt.heap.size := size_of (unhide Kc_16)
          have hlt_v : T3 < Wt.heap.size := size_of (unhide Kt_16)
          have hlf_v : T3 + 1 < Wt.heap.size := size_of (unhide Kf_16)
          have hle_v : T4 < Wt.heap.size := size_of (unhide Ke_16)
          have hlh_v : T4 + 1 < Wt.heap.size := size_of (unhide Kh_16)
          have hlw_v : T5 < Wt.heap.size := size_of (unhide Kw_16)
          obtain ⟨T6, eT6⟩ : ∃ X, Wt.heap.size = X := ⟨_, rfl⟩
          obtain ⟨We, eWe⟩ : ∃ X, Wt.alloc (.cells #[.int .i64 0, .slice none 0 0, .slice none 0 0] 24) = X := ⟨_, rfl⟩
          rw [eT6, eWe] at Kv_17; rw [eWe] at HX_17 Kp_17 Kx_17 Kc_17 Kt_17 Kf_17 Ke_17 Kh_17 Kw_17 Ct_17; rw [eT6] at hlp_v hlx_v hlc_v hlt_v hlf_v hle_v hlh_v hlw_v hch6; rw [eT6, eWe]
          clear eT6 eWe HX_16 Kp_16 Kx_16 Kc_16 Kt_16 Kf_16 Ke_16 Kh_16 Kw_16 Ct_16
          obtain ⟨q0, q1, qf0, qf1, ql⟩ := block2 (unhide Kf_17)
          obtain ⟨y0, y1, yf0, yf1, yl⟩ := block2 (unhide Kw_17)
          obtain ⟨⟨r0, r1, r2⟩, ⟨rf0, rf1, rf2⟩, rl⟩ := block3 (unhide Kt_17)
          go_wp2_with (go_at_call 14; refine (sameSpace_same _ _ _ 0 [] [] (isS_empty (unhide HIT)) (zero_s _) (by simp) (by simp)).mono ?_; rintro e wz ⟨rfl, hbz⟩; have HXZ := hide (Below.next (unhide HX_17) hbz (Nat.le_refl _)); clear hbz)
          go_ret
          exact ⟨rfl, unhide HXZ⟩
        · have hhi : 1073741824 < z := by omega
          have hqf : ∀ w, (Op.equalIn 10000 29 (.agg #[.int .i64 3, .int .i64 (-1)]) (.agg #[.int .i64 3, .int .i64 (-1)])).run Try.prog w = .ok true w := fun w => by rw [flt_eq]; rfl
          obtain ⟨y0, y1, yf0, yf1, yl⟩ := block2 (unhide Kw_14)
          go_upto_region 19 with (go_at_call 15; refine (f_any _ _ _).mono ?_; rintro e ws ⟨rfl, hbs⟩; have HX_15 := hide (Below.next (unhide HX_14) hbs (by first | exact Nat.le_refl _ | (have := unhide HBA; omega))); have Kp_15 := hide (keep_below (unhide Kp_14) hbs); have Kx_15 := hide (keep_below (unhide Kx_14) hbs); have Kc_15 := hide (keep_below (unhide Kc_14) hbs); have Kt_15 := hide (keep_below (unhide Kt_14) hbs); have Kf_15 := hide (keep_below (unhide Kf_14) hbs); have Ke_15 := hide (keep_below (unhide Ke_14) hbs); have Kh_15 := hide (keep_below (unhide Kh_14) hbs); have Kw_15 := hide (keep_below (unhide Kw_14) hbs); have Ct_15 := hide (Below.next (unhide Ct_14) hbs (Nat.le_refl _)); clear HX_14 Kp_14 Kx_14 Kc_14 Kt_14 Kf_14 Ke_14 Kh_14 Kw_14 Ct_14; clear hbs y0 y1 yf0 yf1 yl; obtain ⟨y0, y1, yf0, yf1, yl⟩ := block2 (unhide Kw_15))
          clear y0 y1 yf0 yf1 yl
          have HX_16 := hide (put2_below (y0 := .int .i64 3) (y1 := .int .i64 (-1)) (unhide HX_15) (show w.heap.size ≤ T5 by first | omega | (have := unhide HBA; omega)))
          have Kp_16 := hide ((put2_keep (y0 := .int .i64 3) (y1 := .int .i64 (-1)) (show w.heap.size ≠ T5 by omega)).trans (unhide Kp_15))
          have Kx_16 := hide ((put2_keep (y0 := .int .i64 3) (y1 := .int .i64 (-1)) (show T ≠ T5 by omega)).trans (unhide Kx_15))
          have Kc_16 := hide ((put2_keep (y0 := .int .i64 3) (y1 := .int .i64 (-1)) (show T2 ≠ T5 by omega)).trans (unhide Kc_15))
          have Kt_16 := hide ((put2_keep (y0 := .int .i64 3) (y1 := .int .i64 (-1)) (show T3 ≠ T5 by omega)).trans (unhide Kt_15))
          have Kf_16 := hide ((put2_keep (y0 := .int .i64 3) (y1 := .int .i64 (-1)) (show T3 + 1 ≠ T5 by omega)).trans (unhide Kf_15))
          have Ke_16 := hide ((put2_keep (y0 := .int .i64 3) (y1 := .int .i64 (-1)) (show T4 ≠ T5 by omega)).trans (unhide Ke_15))
          have Kh_16 := hide ((put2_keep (y0 := .int .i64 3) (y1 := .int .i64 (-1)) (show T4 + 1 ≠ T5 by omega)).trans (unhide Kh_15))
          have Kw_16 := hide (put2_new (y0 := .int .i64 3) (y1 := .int .i64 (-1)) (unhide Kw_15))
          have Ct_16 := hide (put2_below (y0 := .int .i64 3) (y1 := .int .i64 (-1)) (unhide Ct_15) (show _ ≤ T5 by omega))
          obtain ⟨Wt, eWt⟩ : ∃ X, put2 ws (T5) (.int .i64 3) (.int .i64 (-1)) = X := ⟨_, rfl⟩
          rw [eWt] at HX_16 Kp_16 Kx_16 Kc_16 Kt_16 Kf_16 Ke_16 Kh_16 Kw_16 Ct_16
          have eWt2 : ((ws).setCell ⟨T5, 0, none⟩ (.int .i64 3)).setCell ⟨T5, 1, none⟩ (.int .i64 (-1)) = Wt := eWt
          rw [eWt2]
          clear eWt eWt2 HX_15 Kp_15 Kx_15 Kc_15 Kt_15 Kf_15 Ke_15 Kh_15 Kw_15 Ct_15
          obtain ⟨y0, y1, yf0, yf1, yl⟩ := block2 (unhide Kw_16)
          have hch6 := (unhide Ct_16).size
          go_upto_region 20 with fail
          clear y0 y1 yf0 yf1 yl
          have HX_17 := hide ((unhide HX_16).alloc (Nat.le_trans (show w.heap.size ≤ w.heap.size from Nat.le_refl _) (unhide HX_16).size) (.cells #[.int .i64 0, .slice none 0 0, .slice none 0 0] 24))
          have Kp_17 := hide (keep_alloc (unhide Kp_16) (.cells #[.int .i64 0, .slice none 0 0, .slice none 0 0] 24))
          have Kx_17 := hide (keep_alloc (unhide Kx_16) (.cells #[.int .i64 0, .slice none 0 0, .slice none 0 0] 24))
          have Kc_17 := hide (keep_alloc (unhide Kc_16) (.cells #[.int .i64 0, .slice none 0 0, .slice none 0 0] 24))
          have Kt_17 := hide (keep_alloc (unhide Kt_16) (.cells #[.int .i64 0, .slice none 0 0, .slice none 0 0] 24))
          have Kf_17 := hide (keep_alloc (unhide Kf_16) (.cells #[.int .i64 0, .slice none 0 0, .slice none 0 0] 24))
          have Ke_17 := hide (keep_alloc (unhide Ke_16) (.cells #[.int .i64 0, .slice none 0 0, .slice none 0 0] 24))
          have Kh_17 := hide (keep_alloc (unhide Kh_16) (.cells #[.int .i64 0, .slice none 0 0, .slice none 0 0] 24))
          have Kw_17 := hide (keep_alloc (unhide Kw_16) (.cells #[.int .i64 0, .slice none 0 0, .slice none 0 0] 24))
          have Ct_17 := hide ((unhide Ct_16).alloc (unhide Ct_16).size (.cells #[.int .i64 0, .slice none 0 0, .slice none 0 0] 24))
          have Kv_17 := hide (new_block Wt (.cells #[.int .i64 0, .slice none 0 0, .slice none 0 0] 24))
          have hlp_v : w.heap.size < Wt.heap.size := size_of (unhide Kp_16)
          have hlx_v : T < Wt.heap.size := size_of (unhide Kx_16)
          have hlc_v : T2 < Wt.heap.size := size_of (unhide Kc_16)
          have hlt_v : T3 < Wt.heap.size := size_of (unhide Kt_16)
          have hlf_v : T3 + 1 < Wt.heap.size := size_of (unhide Kf_16)
          have hle_v : T4 < Wt.heap.size := size_of (unhide Ke_16)
          have hlh_v : T4 + 1 < Wt.heap.size := size_of (unhide Kh_16)
          have hlw_v : T5 < Wt.heap.size := size_of (unhide Kw_16)
          obtain ⟨T6, eT6⟩ : ∃ X, Wt.heap.size = X := ⟨_, rfl⟩
          obtain ⟨We, eWe⟩ : ∃ X, Wt.alloc (.cells #[.int .i64 0, .slice none 0 0, .slice none 0 0] 24) = X := ⟨_, rfl⟩
          rw [eT6, eWe] at Kv_17; rw [eWe] at HX_17 Kp_17 Kx_17 Kc_17 Kt_17 Kf_17 Ke_17 Kh_17 Kw_17 Ct_17; rw [eT6] at hlp_v hlx_v hlc_v hlt_v hlf_v hle_v hlh_v hlw_v hch6; rw [eT6, eWe]
          clear eT6 eWe HX_16 Kp_16 Kx_16 Kc_16 Kt_16 Kf_16 Ke_16 Kh_16 Kw_16 Ct_16
          obtain ⟨q0, q1, qf0, qf1, ql⟩ := block2 (unhide Kf_17)
          obtain ⟨y0, y1, yf0, yf1, yl⟩ := block2 (unhide Kw_17)
          obtain ⟨⟨r0, r1, r2⟩, ⟨rf0, rf1, rf2⟩, rl⟩ := block3 (unhide Kt_17)
          go_wp2_with (go_at_call 14; refine (sameSpace_same _ _ _ 0 [] [] (isS_empty (unhide HIT)) (zero_s _) (by simp) (by simp)).mono ?_; rintro e wz ⟨rfl, hbz⟩; have HXZ := hide (Below.next (unhide HX_17) hbz (Nat.le_refl _)); clear hbz)
          go_ret
          exact ⟨rfl, unhide HXZ⟩
      · rw [if_neg hr] at hG
        have hr1 : ¬ z < 1 := by omega
        have hr2 : ¬ 1073741824 < z := by omega
        have HTO : Hid (∀ W, Below w.heap.size w W → Calls Try.prog 16 #[.agg #[.int .i64 b, .slice a0 n c0, .slice a1 m c1], .int .i64 z] W fun e w' => (leastL (asks z) fs = none ∧ (∃ au cu af cf nu nf, e = .returned (.tuple #[.agg #[.int .i64 b, .slice au nu cu, .slice af nf cf], .int .i64 0, .bool false]) ∧ nu + nf = us.length + fs.length) ∨ ∃ x sv, leastL (asks z) fs = some x ∧ e = .returned (.tuple #[sv, .int .i64 x.1, .bool true]) ∧ NewS W.heap.size w' sv b (takeUs z us x) (takeFs z fs x)) ∧ Below W.heap.size W w') := fun W hW => takenOf_any W _ b us fs z ((unhide HI).below hW) (by have := unhide HVL; omega) (by have := unhide HVL; omega) (unhide HZ) (by omega) (by omega)
        cases hl : leastL (asks z) fs with
        | none =>
          rw [hl] at hG
          cases hG
          obtain ⟨y0, y1, yf0, yf1, yl⟩ := block2 (unhide Kw_14)
          have hch6 := (unhide Ct_14).size
          go_upto_region 20 with fail
          clear y0 y1 yf0 yf1 yl
          have HX_15 := hide ((unhide HX_14).alloc (Nat.le_trans (show w.heap.size ≤ w.heap.size from Nat.le_refl _) (unhide HX_14).size) (.cells #[.int .i64 0, .slice none 0 0, .slice none 0 0] 24))
          have Kp_15 := hide (keep_alloc (unhide Kp_14) (.cells #[.int .i64 0, .slice none 0 0, .slice none 0 0] 24))
          have Kx_15 := hide (keep_alloc (unhide Kx_14) (.cells #[.int .i64 0, .slice none 0 0, .slice none 0 0] 24))
          have Kc_15 := hide (keep_alloc (unhide Kc_14) (.cells #[.int .i64 0, .slice none 0 0, .slice none 0 0] 24))
          have Kt_15 := hide (keep_alloc (unhide Kt_14) (.cells #[.int .i64 0, .slice none 0 0, .slice none 0 0] 24))
          have Kf_15 := hide (keep_alloc (unhide Kf_14) (.cells #[.int .i64 0, .slice none 0 0, .slice none 0 0] 24))
          have Ke_15 := hide (keep_alloc (unhide Ke_14) (.cells #[.int .i64 0, .slice none 0 0, .slice none 0 0] 24))
          have Kh_15 := hide (keep_alloc (unhide Kh_14) (.cells #[.int .i64 0, .slice none 0 0, .slice none 0 0] 24))
          have Kw_15 := hide (keep_alloc (unhide Kw_14) (.cells #[.int .i64 0, .slice none 0 0, .slice none 0 0] 24))
          have Ct_15 := hide ((unhide Ct_14).alloc (unhide Ct_14).size (.cells #[.int .i64 0, .slice none 0 0, .slice none 0 0] 24))
          have Kv_15 := hide (new_block wh (.cells #[.int .i64 0, .slice none 0 0, .slice none 0 0] 24))
          have hlp_v : w.heap.size < wh.heap.size := size_of (unhide Kp_14)
          have hlx_v : T < wh.heap.size := size_of (unhide Kx_14)
          have hlc_v : T2 < wh.heap.size := size_of (unhide Kc_14)
          have hlt_v : T3 < wh.heap.size := size_of (unhide Kt_14)
          have hlf_v : T3 + 1 < wh.heap.size := size_of (unhide Kf_14)
          have hle_v : T4 < wh.heap.size := size_of (unhide Ke_14)
          have hlh_v : T4 + 1 < wh.heap.size := size_of (unhide Kh_14)
          have hlw_v : T5 < wh.heap.size := size_of (unhide Kw_14)
          obtain ⟨T6, eT6⟩ : ∃ X, wh.heap.size = X := ⟨_, rfl⟩
          obtain ⟨We, eWe⟩ : ∃ X, wh.alloc (.cells #[.int .i64 0, .slice none 0 0, .slice none 0 0] 24) = X := ⟨_, rfl⟩
          rw [eT6, eWe] at Kv_15; rw [eWe] at HX_15 Kp_15 Kx_15 Kc_15 Kt_15 Kf_15 Ke_15 Kh_15 Kw_15 Ct_15; rw [eT6] at hlp_v hlx_v hlc_v hlt_v hlf_v hle_v hlh_v hlw_v hch6; rw [eT6, eWe]
          clear eT6 eWe HX_14 Kp_14 Kx_14 Kc_14 Kt_14 Kf_14 Ke_14 Kh_14 Kw_14 Ct_14
          obtain ⟨⟨p0, p1, p2⟩, ⟨pf0, pf1, pf2⟩, pl⟩ := block3 (unhide Kp_15)
          obtain ⟨y0, y1, yf0, yf1, yl⟩ := block2 (unhide Kw_15)
          go_upto_region 23 with (go_at_call 16; refine (unhide HTO _ (unhide HX_15)).mono ?_; rintro e wf ⟨hh, hbf⟩; obtain ⟨ag, cg, ah, ch, ng, nh, rfl, hsm⟩ : ∃ au cu af cf nu nf, e = .returned (.tuple #[.agg #[.int .i64 b, .slice au nu cu, .slice af nf cf], .int .i64 0, .bool false]) ∧ nu + nf = us.length + fs.length := (hh.elim (fun h => h.2) (fun ⟨x, sv, h1, _⟩ => by rw [hl] at h1; cases h1)); have HX_16 := hide (Below.next (unhide HX_15) hbf (by first | exact Nat.le_refl _ | (have := unhide HBA; omega))); have Kp_16 := hide (keep_below (unhide Kp_15) hbf); have Kx_16 := hide (keep_below (unhide Kx_15) hbf); have Kc_16 := hide (keep_below (unhide Kc_15) hbf); have Kt_16 := hide (keep_below (unhide Kt_15) hbf); have Kf_16 := hide (keep_below (unhide Kf_15) hbf); have Ke_16 := hide (keep_below (unhide Ke_15) hbf); have Kh_16 := hide (keep_below (unhide Kh_15) hbf); have Kw_16 := hide (keep_below (unhide Kw_15) hbf); have Kv_16 := hide (keep_below (unhide Kv_15) hbf); have Ct_16 := hide (Below.next (unhide Ct_15) hbf (Nat.le_refl _)); clear HX_15 Kp_15 Kx_15 Kc_15 Kt_15 Kf_15 Ke_15 Kh_15 Kw_15 Kv_15 Ct_15; clear hbf hh hsm p0 p1 p2 pf0 pf1 pf2 pl y0 y1 yf0 yf1 yl)
          have HX_17 := hide ((unhide HX_16).alloc (Nat.le_trans (show w.heap.size ≤ w.heap.size from Nat.le_refl _) (unhide HX_16).size) (.cells #[.int .i64 b, .slice ag ng cg, .slice ah nh ch] 24))
          have Kp_17 := hide (keep_alloc (unhide Kp_16) (.cells #[.int .i64 b, .slice ag ng cg, .slice ah nh ch] 24))
          have Kx_17 := hide (keep_alloc (unhide Kx_16) (.cells #[.int .i64 b, .slice ag ng cg, .slice ah nh ch] 24))
          have Kc_17 := hide (keep_alloc (unhide Kc_16) (.cells #[.int .i64 b, .slice ag ng cg, .slice ah nh ch] 24))
          have Kt_17 := hide (keep_alloc (unhide Kt_16) (.cells #[.int .i64 b, .slice ag ng cg, .slice ah nh ch] 24))
          have Kf_17 := hide (keep_alloc (unhide Kf_16) (.cells #[.int .i64 b, .slice ag ng cg, .slice ah nh ch] 24))
          have Ke_17 := hide (keep_alloc (unhide Ke_16) (.cells #[.int .i64 b, .slice ag ng cg, .slice ah nh ch] 24))
          have Kh_17 := hide (keep_alloc (unhide Kh_16) (.cells #[.int .i64 b, .slice ag ng cg, .slice ah nh ch] 24))
          have Kw_17 := hide (keep_alloc (unhide Kw_16) (.cells #[.int .i64 b, .slice ag ng cg, .slice ah nh ch] 24))
          have Kv_17 := hide (keep_alloc (unhide Kv_16) (.cells #[.int .i64 b, .slice ag ng cg, .slice ah nh ch] 24))
          have Ct_17 := hide ((unhide Ct_16).alloc (unhide Ct_16).size (.cells #[.int .i64 b, .slice ag ng cg, .slice ah nh ch] 24))
          have Ku_17 := hide (new_block wf (.cells #[.int .i64 b, .slice ag ng cg, .slice ah nh ch] 24))
          have hlp_u : w.heap.size < wf.heap.size := size_of (unhide Kp_16)
          have hlx_u : T < wf.heap.size := size_of (unhide Kx_16)
          have hlc_u : T2 < wf.heap.size := size_of (unhide Kc_16)
          have hlt_u : T3 < wf.heap.size := size_of (unhide Kt_16)
          have hlf_u : T3 + 1 < wf.heap.size := size_of (unhide Kf_16)
          have hle_u : T4 < wf.heap.size := size_of (unhide Ke_16)
          have hlh_u : T4 + 1 < wf.heap.size := size_of (unhide Kh_16)
          have hlw_u : T5 < wf.heap.size := size_of (unhide Kw_16)
          have hlv_u : T6 < wf.heap.size := size_of (unhide Kv_16)
          obtain ⟨T7, eT7⟩ : ∃ X, wf.heap.size = X := ⟨_, rfl⟩
          obtain ⟨Wf, eWf⟩ : ∃ X, wf.alloc (.cells #[.int .i64 b, .slice ag ng cg, .slice ah nh ch] 24) = X := ⟨_, rfl⟩
          rw [eT7, eWf] at Ku_17; rw [eWf] at HX_17 Kp_17 Kx_17 Kc_17 Kt_17 Kf_17 Ke_17 Kh_17 Kw_17 Kv_17 Ct_17; rw [eT7] at hlp_u hlx_u hlc_u hlt_u hlf_u hle_u hlh_u hlw_u hlv_u; rw [eT7, eWf]
          clear eT7 eWf HX_16 Kp_16 Kx_16 Kc_16 Kt_16 Kf_16 Ke_16 Kh_16 Kw_16 Kv_16 Ct_16
          clear HG HS
          have hqf : ∀ w, (Op.equalIn 10000 29 (.agg #[.int .i64 6, .int .i64 0]) (.agg #[.int .i64 6, .int .i64 0])).run Try.prog w = .ok true w := fun w => by rw [flt_eq]; rfl
          obtain ⟨y0, y1, yf0, yf1, yl⟩ := block2 (unhide Kw_17)
          go_upto_region 27 with (go_at_call 15; refine (f_any _ _ _).mono ?_; rintro e ws ⟨rfl, hbs⟩; have HX_18 := hide (Below.next (unhide HX_17) hbs (by first | exact Nat.le_refl _ | (have := unhide HBA; omega))); have Kp_18 := hide (keep_below (unhide Kp_17) hbs); have Kx_18 := hide (keep_below (unhide Kx_17) hbs); have Kc_18 := hide (keep_below (unhide Kc_17) hbs); have Kt_18 := hide (keep_below (unhide Kt_17) hbs); have Kf_18 := hide (keep_below (unhide Kf_17) hbs); have Ke_18 := hide (keep_below (unhide Ke_17) hbs); have Kh_18 := hide (keep_below (unhide Kh_17) hbs); have Kw_18 := hide (keep_below (unhide Kw_17) hbs); have Kv_18 := hide (keep_below (unhide Kv_17) hbs); have Ku_18 := hide (keep_below (unhide Ku_17) hbs); have Ct_18 := hide (Below.next (unhide Ct_17) hbs (Nat.le_refl _)); clear HX_17 Kp_17 Kx_17 Kc_17 Kt_17 Kf_17 Ke_17 Kh_17 Kw_17 Kv_17 Ku_17 Ct_17; clear hbs y0 y1 yf0 yf1 yl; obtain ⟨y0, y1, yf0, yf1, yl⟩ := block2 (unhide Kw_18))
          clear y0 y1 yf0 yf1 yl
          have HX_19 := hide (put2_below (y0 := .int .i64 6) (y1 := .int .i64 0) (unhide HX_18) (show w.heap.size ≤ T5 by first | omega | (have := unhide HBA; omega)))
          have Kp_19 := hide ((put2_keep (y0 := .int .i64 6) (y1 := .int .i64 0) (show w.heap.size ≠ T5 by omega)).trans (unhide Kp_18))
          have Kx_19 := hide ((put2_keep (y0 := .int .i64 6) (y1 := .int .i64 0) (show T ≠ T5 by omega)).trans (unhide Kx_18))
          have Kc_19 := hide ((put2_keep (y0 := .int .i64 6) (y1 := .int .i64 0) (show T2 ≠ T5 by omega)).trans (unhide Kc_18))
          have Kt_19 := hide ((put2_keep (y0 := .int .i64 6) (y1 := .int .i64 0) (show T3 ≠ T5 by omega)).trans (unhide Kt_18))
          have Kf_19 := hide ((put2_keep (y0 := .int .i64 6) (y1 := .int .i64 0) (show T3 + 1 ≠ T5 by omega)).trans (unhide Kf_18))
          have Ke_19 := hide ((put2_keep (y0 := .int .i64 6) (y1 := .int .i64 0) (show T4 ≠ T5 by omega)).trans (unhide Ke_18))
          have Kh_19 := hide ((put2_keep (y0 := .int .i64 6) (y1 := .int .i64 0) (show T4 + 1 ≠ T5 by omega)).trans (unhide Kh_18))
          have Kw_19 := hide (put2_new (y0 := .int .i64 6) (y1 := .int .i64 0) (unhide Kw_18))
          have Kv_19 := hide ((put2_keep (y0 := .int .i64 6) (y1 := .int .i64 0) (show T6 ≠ T5 by omega)).trans (unhide Kv_18))
          have Ku_19 := hide ((put2_keep (y0 := .int .i64 6) (y1 := .int .i64 0) (show T7 ≠ T5 by omega)).trans (unhide Ku_18))
          have Ct_19 := hide (put2_below (y0 := .int .i64 6) (y1 := .int .i64 0) (unhide Ct_18) (show _ ≤ T5 by omega))
          obtain ⟨Wt, eWt⟩ : ∃ X, put2 ws (T5) (.int .i64 6) (.int .i64 0) = X := ⟨_, rfl⟩
          rw [eWt] at HX_19 Kp_19 Kx_19 Kc_19 Kt_19 Kf_19 Ke_19 Kh_19 Kw_19 Kv_19 Ku_19 Ct_19
          have eWt2 : ((ws).setCell ⟨T5, 0, none⟩ (.int .i64 6)).setCell ⟨T5, 1, none⟩ (.int .i64 0) = Wt := eWt
          rw [eWt2]
          clear eWt eWt2 HX_18 Kp_18 Kx_18 Kc_18 Kt_18 Kf_18 Ke_18 Kh_18 Kw_18 Kv_18 Ku_18 Ct_18
          obtain ⟨⟨u0, u1, u2⟩, ⟨uf0, uf1, uf2⟩, ul⟩ := block3 (unhide Ku_19)
          obtain ⟨⟨o0, o1, o2⟩, ⟨of0, of1, of2⟩, ol⟩ := block3 (unhide Kv_19)
          go_upto_region 28 with fail
          clear u0 u1 u2 uf0 uf1 uf2 ul o0 o1 o2 of0 of1 of2 ol
          have HX_20 := hide (putL_below (y0 := .int .i64 b) (y1 := .slice ag ng cg) (y2 := .slice ah nh ch) (unhide HX_19) (show w.heap.size ≤ T6 by first | omega | (have := unhide HBA; omega)))
          have Kp_20 := hide ((putL_keep (y0 := .int .i64 b) (y1 := .slice ag ng cg) (y2 := .slice ah nh ch) (show w.heap.size ≠ T6 by omega)).trans (unhide Kp_19))
          have Kx_20 := hide ((putL_keep (y0 := .int .i64 b) (y1 := .slice ag ng cg) (y2 := .slice ah nh ch) (show T ≠ T6 by omega)).trans (unhide Kx_19))
          have Kc_20 := hide ((putL_keep (y0 := .int .i64 b) (y1 := .slice ag ng cg) (y2 := .slice ah nh ch) (show T2 ≠ T6 by omega)).trans (unhide Kc_19))
          have Kt_20 := hide ((putL_keep (y0 := .int .i64 b) (y1 := .slice ag ng cg) (y2 := .slice ah nh ch) (show T3 ≠ T6 by omega)).trans (unhide Kt_19))
          have Kf_20 := hide ((putL_keep (y0 := .int .i64 b) (y1 := .slice ag ng cg) (y2 := .slice ah nh ch) (show T3 + 1 ≠ T6 by omega)).trans (unhide Kf_19))
          have Ke_20 := hide ((putL_keep (y0 := .int .i64 b) (y1 := .slice ag ng cg) (y2 := .slice ah nh ch) (show T4 ≠ T6 by omega)).trans (unhide Ke_19))
          have Kh_20 := hide ((putL_keep (y0 := .int .i64 b) (y1 := .slice ag ng cg) (y2 := .slice ah nh ch) (show T4 + 1 ≠ T6 by omega)).trans (unhide Kh_19))
          have Kw_20 := hide ((putL_keep (y0 := .int .i64 b) (y1 := .slice ag ng cg) (y2 := .slice ah nh ch) (show T5 ≠ T6 by omega)).trans (unhide Kw_19))
          have Kv_20 := hide (putL_new (y0 := .int .i64 b) (y1 := .slice ag ng cg) (y2 := .slice ah nh ch) (unhide Kv_19))
          have Ku_20 := hide ((putL_keep (y0 := .int .i64 b) (y1 := .slice ag ng cg) (y2 := .slice ah nh ch) (show T7 ≠ T6 by omega)).trans (unhide Ku_19))
          have Ct_20 := hide (putL_below (y0 := .int .i64 b) (y1 := .slice ag ng cg) (y2 := .slice ah nh ch) (unhide Ct_19) (show _ ≤ T6 by omega))
          obtain ⟨Wv, eWv⟩ : ∃ X, putL Wt (T6) (.int .i64 b) (.slice ag ng cg) (.slice ah nh ch) = X := ⟨_, rfl⟩
          rw [eWv] at HX_20 Kp_20 Kx_20 Kc_20 Kt_20 Kf_20 Ke_20 Kh_20 Kw_20 Kv_20 Ku_20 Ct_20
          have eWv2 : (((Wt).setCell ⟨T6, 0, none⟩ (.int .i64 b)).setCell ⟨T6, 1, none⟩ (.slice ag ng cg)).setCell ⟨T6, 2, none⟩ (.slice ah nh ch) = Wv := eWv
          rw [eWv2]
          clear eWv eWv2 HX_19 Kp_19 Kx_19 Kc_19 Kt_19 Kf_19 Ke_19 Kh_19 Kw_19 Kv_19 Ku_19 Ct_19
          obtain ⟨q0, q1, qf0, qf1, ql⟩ := block2 (unhide Kf_20)
          obtain ⟨y0, y1, yf0, yf1, yl⟩ := block2 (unhide Kw_20)
          obtain ⟨⟨r0, r1, r2⟩, ⟨rf0, rf1, rf2⟩, rl⟩ := block3 (unhide Kt_20)
          go_wp2_with (go_at_call 14; refine (sameSpace_same _ _ _ 0 [] [] (isS_empty (unhide HIT)) (zero_s _) (by simp) (by simp)).mono ?_; rintro e wz ⟨rfl, hbz⟩; have HXZ := hide (Below.next (unhide HX_20) hbz (Nat.le_refl _)); clear hbz)
          go_ret
          exact ⟨rfl, unhide HXZ⟩
        | some x =>
          rw [hl] at hG
          simp only at hG
          have hlens := take_lens (unhide HZ) hl
          obtain ⟨nA, eA⟩ : ∃ X, (takeUs z us x).length = X := ⟨_, rfl⟩
          obtain ⟨nB, eB⟩ : ∃ X, (takeFs z fs x).length = X := ⟨_, rfl⟩
          rw [eA, eB] at hlens
          have HLA := hide eA; have HLB := hide eB
          have hAB : nA + nB = us.length + fs.length + (halves z x.1 31 x.2).2.length := by omega
          have hq31 := halves_len z x.1 31 x.2
          have hnA : nA ≤ 7000 := by have := unhide HVL; omega
          have hnB : nB ≤ 7000 := by have := unhide HVL; omega
          have hsum : IntKind.i64.wrap ((nA : Int) + (nB : Int)) = (nA : Int) + (nB : Int) := wrapi (by omega) (by omega)
          clear eA eB hlens
          obtain ⟨y0, y1, yf0, yf1, yl⟩ := block2 (unhide Kw_14)
          have hch6 := (unhide Ct_14).size
          go_upto_region 20 with fail
          clear y0 y1 yf0 yf1 yl
          have HX_15 := hide ((unhide HX_14).alloc (Nat.le_trans (show w.heap.size ≤ w.heap.size from Nat.le_refl _) (unhide HX_14).size) (.cells #[.int .i64 0, .slice none 0 0, .slice none 0 0] 24))
          have Kp_15 := hide (keep_alloc (unhide Kp_14) (.cells #[.int .i64 0, .slice none 0 0, .slice none 0 0] 24))
          have Kx_15 := hide (keep_alloc (unhide Kx_14) (.cells #[.int .i64 0, .slice none 0 0, .slice none 0 0] 24))
          have Kc_15 := hide (keep_alloc (unhide Kc_14) (.cells #[.int .i64 0, .slice none 0 0, .slice none 0 0] 24))
          have Kt_15 := hide (keep_alloc (unhide Kt_14) (.cells #[.int .i64 0, .slice none 0 0, .slice none 0 0] 24))
          have Kf_15 := hide (keep_alloc (unhide Kf_14) (.cells #[.int .i64 0, .slice none 0 0, .slice none 0 0] 24))
          have Ke_15 := hide (keep_alloc (unhide Ke_14) (.cells #[.int .i64 0, .slice none 0 0, .slice none 0 0] 24))
          have Kh_15 := hide (keep_alloc (unhide Kh_14) (.cells #[.int .i64 0, .slice none 0 0, .slice none 0 0] 24))
          have Kw_15 := hide (keep_alloc (unhide Kw_14) (.cells #[.int .i64 0, .slice none 0 0, .slice none 0 0] 24))
          have Ct_15 := hide ((unhide Ct_14).alloc (unhide Ct_14).size (.cells #[.int .i64 0, .slice none 0 0, .slice none 0 0] 24))
          have Kv_15 := hide (new_block wh (.cells #[.int .i64 0, .slice none 0 0, .slice none 0 0] 24))
          have hlp_v : w.heap.size < wh.heap.size := size_of (unhide Kp_14)
          have hlx_v : T < wh.heap.size := size_of (unhide Kx_14)
          have hlc_v : T2 < wh.heap.size := size_of (unhide Kc_14)
          have hlt_v : T3 < wh.heap.size := size_of (unhide Kt_14)
          have hlf_v : T3 + 1 < wh.heap.size := size_of (unhide Kf_14)
          have hle_v : T4 < wh.heap.size := size_of (unhide Ke_14)
          have hlh_v : T4 + 1 < wh.heap.size := size_of (unhide Kh_14)
          have hlw_v : T5 < wh.heap.size := size_of (unhide Kw_14)
          obtain ⟨T6, eT6⟩ : ∃ X, wh.heap.size = X := ⟨_, rfl⟩
          obtain ⟨We, eWe⟩ : ∃ X, wh.alloc (.cells #[.int .i64 0, .slice none 0 0, .slice none 0 0] 24) = X := ⟨_, rfl⟩
          rw [eT6, eWe] at Kv_15; rw [eWe] at HX_15 Kp_15 Kx_15 Kc_15 Kt_15 Kf_15 Ke_15 Kh_15 Kw_15 Ct_15; rw [eT6] at hlp_v hlx_v hlc_v hlt_v hlf_v hle_v hlh_v hlw_v hch6; rw [eT6, eWe]
          clear eT6 eWe HX_14 Kp_14 Kx_14 Kc_14 Kt_14 Kf_14 Ke_14 Kh_14 Kw_14 Ct_14
          obtain ⟨⟨p0, p1, p2⟩, ⟨pf0, pf1, pf2⟩, pl⟩ := block3 (unhide Kp_15)
          obtain ⟨y0, y1, yf0, yf1, yl⟩ := block2 (unhide Kw_15)
          have hbv : T6 < We.heap.size := size_of (unhide Kv_15)
          go_upto_region 23 with (go_at_call 16; refine (unhide HTO _ (unhide HX_15)).mono ?_; rintro e wf ⟨hh, hbf⟩; obtain ⟨sv2, rfl, hs2⟩ : ∃ sv, e = .returned (.tuple #[sv, .int .i64 x.1, .bool true]) ∧ NewS We.heap.size wf sv b (takeUs z us x) (takeFs z fs x) := (hh.elim (fun h => by rw [hl] at h; cases h.1) (fun ⟨y, sv, h1, h2, h3⟩ => by rw [hl] at h1; cases h1; exact ⟨sv, h2, h3⟩)); obtain ⟨ag, cg, ah, ch, rfl, hg1, hg2⟩ := hs2; rw [unhide HLA] at hg1; rw [unhide HLB] at hg2; have HS2 : Hid (NewS We.heap.size wf (.agg #[.int .i64 b, .slice ag nA cg, .slice ah nB ch]) b (takeUs z us x) (takeFs z fs x)) := ⟨ag, cg, ah, ch, by rw [unhide HLA, unhide HLB], by rw [unhide HLA]; exact hg1, by rw [unhide HLB]; exact hg2⟩; rw [unhide HLA, unhide HLB]; have HX_16 := hide (Below.next (unhide HX_15) hbf (by first | exact Nat.le_refl _ | (have := unhide HBA; omega))); have Kp_16 := hide (keep_below (unhide Kp_15) hbf); have Kx_16 := hide (keep_below (unhide Kx_15) hbf); have Kc_16 := hide (keep_below (unhide Kc_15) hbf); have Kt_16 := hide (keep_below (unhide Kt_15) hbf); have Kf_16 := hide (keep_below (unhide Kf_15) hbf); have Ke_16 := hide (keep_below (unhide Ke_15) hbf); have Kh_16 := hide (keep_below (unhide Kh_15) hbf); have Kw_16 := hide (keep_below (unhide Kw_15) hbf); have Kv_16 := hide (keep_below (unhide Kv_15) hbf); have Ct_16 := hide (Below.next (unhide Ct_15) hbf (Nat.le_refl _)); clear HX_15 Kp_15 Kx_15 Kc_15 Kt_15 Kf_15 Ke_15 Kh_15 Kw_15 Kv_15 Ct_15; clear hbf hh hg1 hg2 p0 p1 p2 pf0 pf1 pf2 pl y0 y1 yf0 yf1 yl)
          have HS3 := hide ((unhide HS2).below ((Below.refl _ _).alloc (Nat.le_refl _) (.cells #[.int .i64 b, .slice ag nA cg, .slice ah nB ch] 24)))
          have HX_17 := hide ((unhide HX_16).alloc (Nat.le_trans (show w.heap.size ≤ w.heap.size from Nat.le_refl _) (unhide HX_16).size) (.cells #[.int .i64 b, .slice ag nA cg, .slice ah nB ch] 24))
          have Kp_17 := hide (keep_alloc (unhide Kp_16) (.cells #[.int .i64 b, .slice ag nA cg, .slice ah nB ch] 24))
          have Kx_17 := hide (keep_alloc (unhide Kx_16) (.cells #[.int .i64 b, .slice ag nA cg, .slice ah nB ch] 24))
          have Kc_17 := hide (keep_alloc (unhide Kc_16) (.cells #[.int .i64 b, .slice ag nA cg, .slice ah nB ch] 24))
          have Kt_17 := hide (keep_alloc (unhide Kt_16) (.cells #[.int .i64 b, .slice ag nA cg, .slice ah nB ch] 24))
          have Kf_17 := hide (keep_alloc (unhide Kf_16) (.cells #[.int .i64 b, .slice ag nA cg, .slice ah nB ch] 24))
          have Ke_17 := hide (keep_alloc (unhide Ke_16) (.cells #[.int .i64 b, .slice ag nA cg, .slice ah nB ch] 24))
          have Kh_17 := hide (keep_alloc (unhide Kh_16) (.cells #[.int .i64 b, .slice ag nA cg, .slice ah nB ch] 24))
          have Kw_17 := hide (keep_alloc (unhide Kw_16) (.cells #[.int .i64 b, .slice ag nA cg, .slice ah nB ch] 24))
          have Kv_17 := hide (keep_alloc (unhide Kv_16) (.cells #[.int .i64 b, .slice ag nA cg, .slice ah nB ch] 24))
          have Ct_17 := hide ((unhide Ct_16).alloc (unhide Ct_16).size (.cells #[.int .i64 b, .slice ag nA cg, .slice ah nB ch] 24))
          have Ku_17 := hide (new_block wf (.cells #[.int .i64 b, .slice ag nA cg, .slice ah nB ch] 24))
          have hlp_u : w.heap.size < wf.heap.size := size_of (unhide Kp_16)
          have hlx_u : T < wf.heap.size := size_of (unhide Kx_16)
          have hlc_u : T2 < wf.heap.size := size_of (unhide Kc_16)
          have hlt_u : T3 < wf.heap.size := size_of (unhide Kt_16)
          have hlf_u : T3 + 1 < wf.heap.size := size_of (unhide Kf_16)
          have hle_u : T4 < wf.heap.size := size_of (unhide Ke_16)
          have hlh_u : T4 + 1 < wf.heap.size := size_of (unhide Kh_16)
          have hlw_u : T5 < wf.heap.size := size_of (unhide Kw_16)
          have hlv_u : T6 < wf.heap.size := size_of (unhide Kv_16)
          obtain ⟨T7, eT7⟩ : ∃ X, wf.heap.size = X := ⟨_, rfl⟩
          obtain ⟨Wf, eWf⟩ : ∃ X, wf.alloc (.cells #[.int .i64 b, .slice ag nA cg, .slice ah nB ch] 24) = X := ⟨_, rfl⟩
          rw [eWf] at HS3; rw [eT7, eWf] at Ku_17; rw [eWf] at HX_17 Kp_17 Kx_17 Kc_17 Kt_17 Kf_17 Ke_17 Kh_17 Kw_17 Kv_17 Ct_17; rw [eT7] at hlp_u hlx_u hlc_u hlt_u hlf_u hle_u hlh_u hlw_u hlv_u; rw [eT7, eWf]
          clear eT7 eWf HX_16 Kp_16 Kx_16 Kc_16 Kt_16 Kf_16 Ke_16 Kh_16 Kw_16 Kv_16 Ct_16
          by_cases hq5 : 5000 < us.length + fs.length + (halves z x.1 31 x.2).2.length
          · rw [if_pos hq5] at hG
            cases hG
            have hs3 : (5000 : Int) < (nA : Int) + (nB : Int) := by omega
            clear HG HS
            have hqf : ∀ w, (Op.equalIn 10000 29 (.agg #[.int .i64 9, .int .i64 0]) (.agg #[.int .i64 9, .int .i64 0])).run Try.prog w = .ok true w := fun w => by rw [flt_eq]; rfl
            obtain ⟨y0, y1, yf0, yf1, yl⟩ := block2 (unhide Kw_17)
            obtain ⟨⟨u0, u1, u2⟩, ⟨uf0, uf1, uf2⟩, ul⟩ := block3 (unhide Ku_17)
            go_upto_region 27 with (go_at_call 15; refine (f_any _ _ _).mono ?_; rintro e ws ⟨rfl, hbs⟩; have HX_18 := hide (Below.next (unhide HX_17) hbs (by first | exact Nat.le_refl _ | (have := unhide HBA; omega))); have Kp_18 := hide (keep_below (unhide Kp_17) hbs); have Kx_18 := hide (keep_below (unhide Kx_17) hbs); have Kc_18 := hide (keep_below (unhide Kc_17) hbs); have Kt_18 := hide (keep_below (unhide Kt_17) hbs); have Kf_18 := hide (keep_below (unhide Kf_17) hbs); have Ke_18 := hide (keep_below (unhide Ke_17) hbs); have Kh_18 := hide (keep_below (unhide Kh_17) hbs); have Kw_18 := hide (keep_below (unhide Kw_17) hbs); have Kv_18 := hide (keep_below (unhide Kv_17) hbs); have Ku_18 := hide (keep_below (unhide Ku_17) hbs); have Ct_18 := hide (Below.next (unhide Ct_17) hbs (Nat.le_refl _)); clear HX_17 Kp_17 Kx_17 Kc_17 Kt_17 Kf_17 Ke_17 Kh_17 Kw_17 Kv_17 Ku_17 Ct_17; clear hbs y0 y1 yf0 yf1 yl; obtain ⟨y0, y1, yf0, yf1, yl⟩ := block2 (unhide Kw_18))
            clear y0 y1 yf0 yf1 yl u0 u1 u2 uf0 uf1 uf2 ul
            have HX_19 := hide (put2_below (y0 := .int .i64 9) (y1 := .int .i64 0) (unhide HX_18) (show w.heap.size ≤ T5 by first | omega | (have := unhide HBA; omega)))
            have Kp_19 := hide ((put2_keep (y0 := .int .i64 9) (y1 := .int .i64 0) (show w.heap.size ≠ T5 by omega)).trans (unhide Kp_18))
            have Kx_19 := hide ((put2_keep (y0 := .int .i64 9) (y1 := .int .i64 0) (show T ≠ T5 by omega)).trans (unhide Kx_18))
            have Kc_19 := hide ((put2_keep (y0 := .int .i64 9) (y1 := .int .i64 0) (show T2 ≠ T5 by omega)).trans (unhide Kc_18))
            have Kt_19 := hide ((put2_keep (y0 := .int .i64 9) (y1 := .int .i64 0) (show T3 ≠ T5 by omega)).trans (unhide Kt_18))
            have Kf_19 := hide ((put2_keep (y0 := .int .i64 9) (y1 := .int .i64 0) (show T3 + 1 ≠ T5 by omega)).trans (unhide Kf_18))
            have Ke_19 := hide ((put2_keep (y0 := .int .i64 9) (y1 := .int .i64 0) (show T4 ≠ T5 by omega)).trans (unhide Ke_18))
            have Kh_19 := hide ((put2_keep (y0 := .int .i64 9) (y1 := .int .i64 0) (show T4 + 1 ≠ T5 by omega)).trans (unhide Kh_18))
            have Kw_19 := hide (put2_new (y0 := .int .i64 9) (y1 := .int .i64 0) (unhide Kw_18))
            have Kv_19 := hide ((put2_keep (y0 := .int .i64 9) (y1 := .int .i64 0) (show T6 ≠ T5 by omega)).trans (unhide Kv_18))
            have Ku_19 := hide ((put2_keep (y0 := .int .i64 9) (y1 := .int .i64 0) (show T7 ≠ T5 by omega)).trans (unhide Ku_18))
            have Ct_19 := hide (put2_below (y0 := .int .i64 9) (y1 := .int .i64 0) (unhide Ct_18) (show _ ≤ T5 by omega))
            obtain ⟨Wt, eWt⟩ : ∃ X, put2 ws (T5) (.int .i64 9) (.int .i64 0) = X := ⟨_, rfl⟩
            rw [eWt] at HX_19 Kp_19 Kx_19 Kc_19 Kt_19 Kf_19 Ke_19 Kh_19 Kw_19 Kv_19 Ku_19 Ct_19
            have eWt2 : ((ws).setCell ⟨T5, 0, none⟩ (.int .i64 9)).setCell ⟨T5, 1, none⟩ (.int .i64 0) = Wt := eWt
            rw [eWt2]
            clear eWt eWt2 HX_18 Kp_18 Kx_18 Kc_18 Kt_18 Kf_18 Ke_18 Kh_18 Kw_18 Kv_18 Ku_18 Ct_18
            obtain ⟨⟨u0, u1, u2⟩, ⟨uf0, uf1, uf2⟩, ul⟩ := block3 (unhide Ku_19)
            obtain ⟨⟨o0, o1, o2⟩, ⟨of0, of1, of2⟩, ol⟩ := block3 (unhide Kv_19)
            go_upto_region 28 with fail
            clear u0 u1 u2 uf0 uf1 uf2 ul o0 o1 o2 of0 of1 of2 ol
            have HX_20 := hide (putL_below (y0 := .int .i64 b) (y1 := .slice ag nA cg) (y2 := .slice ah nB ch) (unhide HX_19) (show w.heap.size ≤ T6 by first | omega | (have := unhide HBA; omega)))
            have Kp_20 := hide ((putL_keep (y0 := .int .i64 b) (y1 := .slice ag nA cg) (y2 := .slice ah nB ch) (show w.heap.size ≠ T6 by omega)).trans (unhide Kp_19))
            have Kx_20 := hide ((putL_keep (y0 := .int .i64 b) (y1 := .slice ag nA cg) (y2 := .slice ah nB ch) (show T ≠ T6 by omega)).trans (unhide Kx_19))
            have Kc_20 := hide ((putL_keep (y0 := .int .i64 b) (y1 := .slice ag nA cg) (y2 := .slice ah nB ch) (show T2 ≠ T6 by omega)).trans (unhide Kc_19))
            have Kt_20 := hide ((putL_keep (y0 := .int .i64 b) (y1 := .slice ag nA cg) (y2 := .slice ah nB ch) (show T3 ≠ T6 by omega)).trans (unhide Kt_19))
            have Kf_20 := hide ((putL_keep (y0 := .int .i64 b) (y1 := .slice ag nA cg) (y2 := .slice ah nB ch) (show T3 + 1 ≠ T6 by omega)).trans (unhide Kf_19))
            have Ke_20 := hide ((putL_keep (y0 := .int .i64 b) (y1 := .slice ag nA cg) (y2 := .slice ah nB ch) (show T4 ≠ T6 by omega)).trans (unhide Ke_19))
            have Kh_20 := hide ((putL_keep (y0 := .int .i64 b) (y1 := .slice ag nA cg) (y2 := .slice ah nB ch) (show T4 + 1 ≠ T6 by omega)).trans (unhide Kh_19))
            have Kw_20 := hide ((putL_keep (y0 := .int .i64 b) (y1 := .slice ag nA cg) (y2 := .slice ah nB ch) (show T5 ≠ T6 by omega)).trans (unhide Kw_19))
            have Kv_20 := hide (putL_new (y0 := .int .i64 b) (y1 := .slice ag nA cg) (y2 := .slice ah nB ch) (unhide Kv_19))
            have Ku_20 := hide ((putL_keep (y0 := .int .i64 b) (y1 := .slice ag nA cg) (y2 := .slice ah nB ch) (show T7 ≠ T6 by omega)).trans (unhide Ku_19))
            have Ct_20 := hide (putL_below (y0 := .int .i64 b) (y1 := .slice ag nA cg) (y2 := .slice ah nB ch) (unhide Ct_19) (show _ ≤ T6 by omega))
            obtain ⟨Wv, eWv⟩ : ∃ X, putL Wt (T6) (.int .i64 b) (.slice ag nA cg) (.slice ah nB ch) = X := ⟨_, rfl⟩
            rw [eWv] at HX_20 Kp_20 Kx_20 Kc_20 Kt_20 Kf_20 Ke_20 Kh_20 Kw_20 Kv_20 Ku_20 Ct_20
            have eWv2 : (((Wt).setCell ⟨T6, 0, none⟩ (.int .i64 b)).setCell ⟨T6, 1, none⟩ (.slice ag nA cg)).setCell ⟨T6, 2, none⟩ (.slice ah nB ch) = Wv := eWv
            rw [eWv2]
            clear eWv eWv2 HX_19 Kp_19 Kx_19 Kc_19 Kt_19 Kf_19 Ke_19 Kh_19 Kw_19 Kv_19 Ku_19 Ct_19
            obtain ⟨q0, q1, qf0, qf1, ql⟩ := block2 (unhide Kf_20)
            obtain ⟨y0, y1, yf0, yf1, yl⟩ := block2 (unhide Kw_20)
            obtain ⟨⟨r0, r1, r2⟩, ⟨rf0, rf1, rf2⟩, rl⟩ := block3 (unhide Kt_20)
            go_wp2_with (go_at_call 14; refine (sameSpace_same _ _ _ 0 [] [] (isS_empty (unhide HIT)) (zero_s _) (by simp) (by simp)).mono ?_; rintro e wz ⟨rfl, hbz⟩; have HXZ := hide (Below.next (unhide HX_20) hbz (Nat.le_refl _)); clear hbz)
            go_ret
            exact ⟨rfl, unhide HXZ⟩
          · rw [if_neg hq5] at hG
            cases hG
            have hs3 : ¬ (5000 : Int) < (nA : Int) + (nB : Int) := by omega
            have hqf : ∀ w, (Op.equalIn 10000 29 (.agg #[.int .i64 0, .int .i64 0]) (.agg #[.int .i64 0, .int .i64 0])).run Try.prog w = .ok true w := fun w => by rw [flt_eq]; rfl
            clear HG HS
            obtain ⟨⟨u0, u1, u2⟩, ⟨uf0, uf1, uf2⟩, ul⟩ := block3 (unhide Ku_17)
            obtain ⟨⟨o0, o1, o2⟩, ⟨of0, of1, of2⟩, ol⟩ := block3 (unhide Kv_17)
            go_upto_region 28 with fail
            clear u0 u1 u2 uf0 uf1 uf2 ul o0 o1 o2 of0 of1 of2 ol
            have HS4 := hide ((unhide HS3).putL (y0 := .int .i64 b) (y1 := .slice ag nA cg) (y2 := .slice ah nB ch) hbv)
            have HX_18 := hide (putL_below (y0 := .int .i64 b) (y1 := .slice ag nA cg) (y2 := .slice ah nB ch) (unhide HX_17) (show w.heap.size ≤ T6 by first | omega | (have := unhide HBA; omega)))
            have Kp_18 := hide ((putL_keep (y0 := .int .i64 b) (y1 := .slice ag nA cg) (y2 := .slice ah nB ch) (show w.heap.size ≠ T6 by omega)).trans (unhide Kp_17))
            have Kx_18 := hide ((putL_keep (y0 := .int .i64 b) (y1 := .slice ag nA cg) (y2 := .slice ah nB ch) (show T ≠ T6 by omega)).trans (unhide Kx_17))
            have Kc_18 := hide ((putL_keep (y0 := .int .i64 b) (y1 := .slice ag nA cg) (y2 := .slice ah nB ch) (show T2 ≠ T6 by omega)).trans (unhide Kc_17))
            have Kt_18 := hide ((putL_keep (y0 := .int .i64 b) (y1 := .slice ag nA cg) (y2 := .slice ah nB ch) (show T3 ≠ T6 by omega)).trans (unhide Kt_17))
            have Kf_18 := hide ((putL_keep (y0 := .int .i64 b) (y1 := .slice ag nA cg) (y2 := .slice ah nB ch) (show T3 + 1 ≠ T6 by omega)).trans (unhide Kf_17))
            have Ke_18 := hide ((putL_keep (y0 := .int .i64 b) (y1 := .slice ag nA cg) (y2 := .slice ah nB ch) (show T4 ≠ T6 by omega)).trans (unhide Ke_17))
            have Kh_18 := hide ((putL_keep (y0 := .int .i64 b) (y1 := .slice ag nA cg) (y2 := .slice ah nB ch) (show T4 + 1 ≠ T6 by omega)).trans (unhide Kh_17))
            have Kw_18 := hide ((putL_keep (y0 := .int .i64 b) (y1 := .slice ag nA cg) (y2 := .slice ah nB ch) (show T5 ≠ T6 by omega)).trans (unhide Kw_17))
            have Kv_18 := hide (putL_new (y0 := .int .i64 b) (y1 := .slice ag nA cg) (y2 := .slice ah nB ch) (unhide Kv_17))
            have Ku_18 := hide ((putL_keep (y0 := .int .i64 b) (y1 := .slice ag nA cg) (y2 := .slice ah nB ch) (show T7 ≠ T6 by omega)).trans (unhide Ku_17))
            have Ct_18 := hide (putL_below (y0 := .int .i64 b) (y1 := .slice ag nA cg) (y2 := .slice ah nB ch) (unhide Ct_17) (show _ ≤ T6 by omega))
            obtain ⟨Wg, eWg⟩ : ∃ X, putL Wf (T6) (.int .i64 b) (.slice ag nA cg) (.slice ah nB ch) = X := ⟨_, rfl⟩
            rw [eWg] at HS4 HX_18 Kp_18 Kx_18 Kc_18 Kt_18 Kf_18 Ke_18 Kh_18 Kw_18 Kv_18 Ku_18 Ct_18
            have eWg2 : (((Wf).setCell ⟨T6, 0, none⟩ (.int .i64 b)).setCell ⟨T6, 1, none⟩ (.slice ag nA cg)).setCell ⟨T6, 2, none⟩ (.slice ah nB ch) = Wg := eWg
            rw [eWg2]
            clear eWg eWg2 HX_17 Kp_17 Kx_17 Kc_17 Kt_17 Kf_17 Ke_17 Kh_17 Kw_17 Kv_17 Ku_17 Ct_17
            obtain ⟨q0, q1, qf0, qf1, ql⟩ := block2 (unhide Kf_18)
            obtain ⟨y0, y1, yf0, yf1, yl⟩ := block2 (unhide Kw_18)
            obtain ⟨⟨r0, r1, r2⟩, ⟨rf0, rf1, rf2⟩, rl⟩ := block3 (unhide Kt_18)
            obtain ⟨⟨o0, o1, o2⟩, ⟨of0, of1, of2⟩, ol⟩ := block3 (unhide Kv_18)
            have hxx : (x.1 == x.1) = true := by simp
            go_wp2_with (go_at_call 14; refine (sameSpace_same _ _ _ b (takeUs z us x) (takeFs z fs x) ((unhide HIT).below (unhide Ct_18)) (unhide HS4).s (by rw [unhide HLA]; omega) (by rw [unhide HLB]; omega)).mono ?_; rintro e wz ⟨rfl, hbz⟩; have HXZ := hide (Below.next (unhide HX_18) hbz (Nat.le_refl _)); clear hbz)
            go_ret
            exact ⟨rfl, unhide HXZ⟩
    · have hG := unhide HG
      unfold takeR at hG
      rw [if_pos (by rw [unhide HS]; exact hwc), unhide HS] at hG
      cases hG
      have hbe : (FC == 0) = false := by simpa using hwc
      have hbn : (FC != 0) = true := by simpa using hwc
      clear HG HS
      obtain ⟨y0, y1, yf0, yf1, yl⟩ := block2 (unhide Kw_14)
      have hch6 := (unhide Ct_14).size
      go_upto_region 20 with fail
      clear y0 y1 yf0 yf1 yl
      have HX_15 := hide ((unhide HX_14).alloc (Nat.le_trans (show w.heap.size ≤ w.heap.size from Nat.le_refl _) (unhide HX_14).size) (.cells #[.int .i64 0, .slice none 0 0, .slice none 0 0] 24))
      have Kp_15 := hide (keep_alloc (unhide Kp_14) (.cells #[.int .i64 0, .slice none 0 0, .slice none 0 0] 24))
      have Kx_15 := hide (keep_alloc (unhide Kx_14) (.cells #[.int .i64 0, .slice none 0 0, .slice none 0 0] 24))
      have Kc_15 := hide (keep_alloc (unhide Kc_14) (.cells #[.int .i64 0, .slice none 0 0, .slice none 0 0] 24))
      have Kt_15 := hide (keep_alloc (unhide Kt_14) (.cells #[.int .i64 0, .slice none 0 0, .slice none 0 0] 24))
      have Kf_15 := hide (keep_alloc (unhide Kf_14) (.cells #[.int .i64 0, .slice none 0 0, .slice none 0 0] 24))
      have Ke_15 := hide (keep_alloc (unhide Ke_14) (.cells #[.int .i64 0, .slice none 0 0, .slice none 0 0] 24))
      have Kh_15 := hide (keep_alloc (unhide Kh_14) (.cells #[.int .i64 0, .slice none 0 0, .slice none 0 0] 24))
      have Kw_15 := hide (keep_alloc (unhide Kw_14) (.cells #[.int .i64 0, .slice none 0 0, .slice none 0 0] 24))
      have Ct_15 := hide ((unhide Ct_14).alloc (unhide Ct_14).size (.cells #[.int .i64 0, .slice none 0 0, .slice none 0 0] 24))
      have Kv_15 := hide (new_block wh (.cells #[.int .i64 0, .slice none 0 0, .slice none 0 0] 24))
      have hlp_v : w.heap.size < wh.heap.size := size_of (unhide Kp_14)
      have hlx_v : T < wh.heap.size := size_of (unhide Kx_14)
      have hlc_v : T2 < wh.heap.size := size_of (unhide Kc_14)
      have hlt_v : T3 < wh.heap.size := size_of (unhide Kt_14)
      have hlf_v : T3 + 1 < wh.heap.size := size_of (unhide Kf_14)
      have hle_v : T4 < wh.heap.size := size_of (unhide Ke_14)
      have hlh_v : T4 + 1 < wh.heap.size := size_of (unhide Kh_14)
      have hlw_v : T5 < wh.heap.size := size_of (unhide Kw_14)
      obtain ⟨T6, eT6⟩ : ∃ X, wh.heap.size = X := ⟨_, rfl⟩
      obtain ⟨We, eWe⟩ : ∃ X, wh.alloc (.cells #[.int .i64 0, .slice none 0 0, .slice none 0 0] 24) = X := ⟨_, rfl⟩
      rw [eT6, eWe] at Kv_15; rw [eWe] at HX_15 Kp_15 Kx_15 Kc_15 Kt_15 Kf_15 Ke_15 Kh_15 Kw_15 Ct_15; rw [eT6] at hlp_v hlx_v hlc_v hlt_v hlf_v hle_v hlh_v hlw_v hch6; rw [eT6, eWe]
      clear eT6 eWe HX_14 Kp_14 Kx_14 Kc_14 Kt_14 Kf_14 Ke_14 Kh_14 Kw_14 Ct_14
      obtain ⟨q0, q1, qf0, qf1, ql⟩ := block2 (unhide Kf_15)
      obtain ⟨y0, y1, yf0, yf1, yl⟩ := block2 (unhide Kw_15)
      obtain ⟨⟨r0, r1, r2⟩, ⟨rf0, rf1, rf2⟩, rl⟩ := block3 (unhide Kt_15)
      go_wp2_with (go_at_call 14; refine (sameSpace_same _ _ _ 0 [] [] (isS_empty (unhide HIT)) (zero_s _) (by simp) (by simp)).mono ?_; rintro e wz ⟨rfl, hbz⟩; have HXZ := hide (Below.next (unhide HX_15) hbz (Nat.le_refl _)); clear hbz)
      go_ret
      exact ⟨rfl, unhide HXZ⟩

theorem takes_walk (w : World) (v : Value) (b : Int) (us fs : List Bl) (z bits : Int) (h : IsS w v b us fs) (hn : us.length ≤ 1000000000000000) (hm : fs.length ≤ 1000000000000000) (hb1 : Bnd us) (hb2 : Bnd fs) :
    Calls Try.prog 3 #[v, .int .i64 z, .int .i64 bits] w fun e w' => e = .returned (.bool true) ∧ Below w.heap.size w w' := by
  by_cases h1 : bits < 0
  · exact takes_lo w v b us fs z bits h hn hm hb1 hb2 h1
  by_cases h2 : 30 < bits
  · exact takes_hi w v b us fs z bits h hn hm hb1 hb2 h2
  · exact takes_ok w v b us fs z bits h hn hm hb1 hb2 ⟨by omega, by omega⟩
end Go.Proofs.Ytomhfnjnmhdpkaa
