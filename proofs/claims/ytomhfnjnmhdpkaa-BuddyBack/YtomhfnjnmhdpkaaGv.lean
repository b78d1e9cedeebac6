/-
  taskmilllaw.BuddyGives.
-/
import Derived.Test.YtomhfnjnmhdpkaaSp
import Derived.Test.YtomhfnjnmhdpkaaRa
import Derived.Test.YtomhfnjnmhdpkaaZ
namespace Go.Proofs.Ytomhfnjnmhdpkaa
open Go.RowKit

theorem firstW_cases {u : Int} : ∀ (xs : List Bl) (p : Option Int), firstW u p xs = 0 ∨ firstW u p xs = 3 ∨ firstW u p xs = 5
  | [], _ => Or.inl rfl
  | x :: r, p => by
    rw [firstW_cons]
    by_cases hf : fitB u x = true
    · rw [if_pos hf]
      cases p with
      | none => simpa using firstW_cases r (some x.1)
      | some q =>
        by_cases hq : x.1 ≤ q
        · simp [hq]
        · simpa [hq] using firstW_cases r (some x.1)
    · rw [if_neg hf]
      exact Or.inr (Or.inl rfl)
theorem spaceF_zero {b : Int} {us fs : List Bl} (h : (spaceF b us fs).1 = 0) : spaceF b us fs = (0, 0) := by
  unfold spaceF at h ⊢
  split at h
  · simp at h
  split at h
  · rename_i h2; exact absurd h h2
  split at h
  · rename_i h2; exact absurd h h2
  split at h
  · simp at h
  split at h
  · simp at h
  rename_i h1 h2 h3 h4 h5
  rw [if_neg h1, if_neg h2, if_neg h3, if_neg h4, if_neg h5]

/-- The place of the last block that starts there, among so many; -1: there is none. -/
def lastK (us : List Bl) (s : Int) : Nat → Int
  | 0 => -1
  | j + 1 => if (aAt us j).1 = s then (j : Int) else lastK us s j
theorem lastK_cases (us : List Bl) (s : Int) : ∀ n : Nat, (lastK us s n = -1 ∧ ∀ i, i < n → ¬ (aAt us i).1 = s) ∨ ∃ k : Nat, lastK us s n = (k : Int) ∧ k < n ∧ (aAt us k).1 = s
  | 0 => Or.inl ⟨rfl, fun i hi => absurd hi (Nat.not_lt_zero _)⟩
  | j + 1 => by
    rw [lastK]
    by_cases h : (aAt us j).1 = s
    · rw [if_pos h]
      exact Or.inr ⟨j, rfl, Nat.lt_succ_self _, h⟩
    · rw [if_neg h]
      rcases lastK_cases us s j with ⟨h1, h2⟩ | ⟨k, h1, h2, h3⟩
      · refine Or.inl ⟨h1, fun i hi => ?_⟩
        rcases Nat.lt_or_eq_of_le (Nat.le_of_lt_succ hi) with h4 | h4
        · exact h2 i h4
        · rw [h4]; exact h
      · exact Or.inr ⟨k, h1, Nat.lt_succ_of_lt h2, h3⟩
theorem place_at {us : List Bl} {s : Int} (hr : Rise us) {k : Nat} (hk : k < us.length) (h : (aAt us k).1 = s) : placeN s us = k := by
  rcases Nat.lt_trichotomy (placeN s us) k with h1 | h1 | h1
  · have h2 := rise_at hr h1 hk
    have h3 := place_ge hr (Nat.le_refl _) (show placeN s us < us.length by omega)
    omega
  · exact h1
  · have := place_lt h1; omega

theorem isS_empty {w w' : World} {v : Value} {b : Int} (h : IsS w v b [] []) : IsS w' v b [] [] := by
  obtain ⟨v1, v2, rfl, h1, h2⟩ := h
  exact ⟨v1, v2, rfl, isl_empty h1, isl_empty h2⟩

theorem joinN_len : ∀ (k : Nat) (l : List Bl) (x : Bl), (joinN k l x).1.length ≤ l.length
  | 0, _, _ => Nat.le_refl _
  | k + 1, l, x => by
    rw [joinN]
    split
    · exact Nat.le_trans (joinN_len k _ _) (noB_sub _ _).length_le
    · exact Nat.le_refl _
theorem joinL_len (l : List Bl) (x : Bl) : (joinL l x).length ≤ l.length + 1 := by
  unfold joinL
  rw [insB_len]
  have := joinN_len (l.length + 1) l x
  omega

/-- What Give answers: the fault, and the space. -/
def giveR (b : Int) (us fs : List Bl) (s : Int) : (Int × Int) × Int × List Bl × List Bl :=
  if ¬ (spaceF b us fs).1 = 0 then (spaceF b us fs, 0, [], [])
  else if placeN s us < us.length ∧ (aAt us (placeN s us)).1 = s then ((0, 0), b, noB (aAt us (placeN s us)) us, joinL fs (aAt us (placeN s us)))
  else ((6, 0), 0, [], [])

theorem give_any (w : World) (v : Value) (b : Int) (us fs : List Bl) (s : Int) (h : IsS w v b us fs) (hn : us.length ≤ 100000) (hm : fs.length ≤ 100000) (hb1 : Bnd us) (hb2 : Bnd fs) :
    Calls Try.prog 17 #[v, .int .i64 s] w fun e w' => ∃ au nu cu af nf cf, e = .returned (.tuple #[.agg #[.int .i64 (giveR b us fs s).2.1, .slice au nu cu, .slice af nf cf], .agg #[.int .i64 (giveR b us fs s).1.1, .int .i64 (giveR b us fs s).1.2]]) ∧ IsS w' (.agg #[.int .i64 (giveR b us fs s).2.1, .slice au nu cu, .slice af nf cf]) (giveR b us fs s).2.1 (giveR b us fs s).2.2.1 (giveR b us fs s).2.2.2 ∧ Below w.heap.size w w' := by
  unfold giveR
  by_cases hf : (spaceF b us fs).1 = 0
  · rw [if_neg (by simpa using hf)]
    have hz := spaceF_zero hf
    by_cases hp : placeN s us < us.length ∧ (aAt us (placeN s us)).1 = s
    · rw [if_pos hp]
      obtain ⟨x, hx⟩ : ∃ x, aAt us (placeN s us) = x := ⟨_, rfl⟩
      rw [hx] at hp ⊢
      have e : x = (s, x.2) := by rw [← hp.2]
      refine (give_ok w v b us fs s x.2 h hn hm hb1 hb2 hz hp.1 (hx.trans e)).mono ?_
      rintro e' w' ⟨sv, rfl, ⟨a, c, a', c', rfl, h1, h2⟩, hb⟩
      rw [← e] at h1 h2 ⊢
      exact ⟨_, _, _, _, _, _, rfl, ⟨_, _, rfl, h1.1, h2.1⟩, hb⟩
    · rw [if_neg hp]
      refine (give_none w v b us fs s h hn hm hb1 hb2 hz hp).mono ?_
      rintro e' w' ⟨rfl, hb⟩
      exact ⟨none, 0, 0, none, 0, 0, rfl, zero_s w', hb⟩
  · rw [if_pos hf]
    refine (give_fault w v b us fs s h hn hm hb1 hb2 hf).mono ?_
    rintro e' w' ⟨rfl, hb⟩
    exact ⟨none, 0, 0, none, 0, 0, rfl, zero_s w', hb⟩

/-- What a used block of a good space is to its free blocks. -/
theorem join_of {b : Int} {us fs : List Bl} (hz : spaceF b us fs = (0, 0)) {x : Bl} (hx : x ∈ us) : Join ((2 : Int) ^ b.toNat) fs x := by
  obtain ⟨hg1, hg2, hg3, hg4, hg5, hg6⟩ := spaceF_good hz
  have hp := partN_spec _ _ _ _ hg5 (fun y hy => pw_pos (fit_parts (hg3.1 y hy)).1) (fun y hy => pw_pos (fit_parts (hg4.1 y hy)).1)
  exact ⟨hg3.1 x hx, hg4.1, hg4.2, hp.fol', fun z hz => hp.sep x hx z hz⟩

set_option maxRecDepth 100000 in
set_option maxHeartbeats 4000000 in
theorem gives_walk (w : World) (v : Value) (b : Int) (us fs : List Bl) (s : Int) (h : IsS w v b us fs) (hn : us.length ≤ 1000000000000000) (hm : fs.length ≤ 1000000000000000) (hb1 : Bnd us) (hb2 : Bnd fs) :
    Calls Try.prog 4 #[v, .int .i64 s] w fun e w' => e = .returned (.bool true) ∧ Below w.heap.size w w' := by
  have HV := hide (fun W (hW : Below w.heap.size w W) => vastSpace_any W v b us fs (h.below hW) hn hm)
  have HBG := hide (fun W => begun_any W)
  obtain ⟨VST, eVST⟩ : ∃ X, decide (6000 < us.length + fs.length) = X := ⟨_, rfl⟩
  rw [eVST] at HV
  have HVS := hide eVST
  have HI := hide h; have HB1' := hide hb1; have HB2' := hide hb2
  obtain ⟨a0, c0, a1, c1, rfl, hu, hf⟩ := h.form
  have HOP := hide (hu.opens kb rfl)
  obtain ⟨n, en⟩ : ∃ n, us.length = n := ⟨_, rfl⟩
  obtain ⟨m, em⟩ : ∃ m, fs.length = m := ⟨_, rfl⟩
  rw [en] at HOP
  rw [en, em] at HV HI ⊢
  have HNU := hide en; have HNF := hide em
  have HX := hide ((Below.refl w.heap.size w).alloc (Nat.le_refl _) (.cells #[.int .i64 b, .slice a0 n c0, .slice a1 m c1] 24))
  have HP := hide (new_block w (.cells #[.int .i64 b, .slice a0 n c0, .slice a1 m c1] 24))
  obtain ⟨W0, e0⟩ : ∃ W, w.alloc (.cells #[.int .i64 b, .slice a0 n c0, .slice a1 m c1] 24) = W := ⟨_, rfl⟩
  rw [e0] at HX HP
  have HE := hide e0
  clear h hu hf en em e0 hb1 hb2 eVST hn hm
  go_enter Try.func4, Try.ntmps4
  go_upto_region 1 with fail
  rw [unhide HE]
  clear HE
  go_upto_region 3 with (go_at_call 7; refine (unhide HBG _).mono ?_; rintro e w1 ⟨rfl, hb1⟩; have HX_1 := hide (Below.next (unhide HX) hb1 (by first | exact Nat.le_refl _ | (have := unhide HBA; omega))); have Kp_1 := hide (keep_below (unhide HP) hb1); clear HX HP; clear hb1)
  obtain ⟨⟨p0, p1, p2⟩, ⟨pf0, pf1, pf2⟩, pl⟩ := block3 (unhide Kp_1)
  cases VST with
  | true =>
    go_wp2_with (go_at_call 8; refine (unhide HV _ (unhide HX_1)).mono ?_; rintro e w2 ⟨rfl, hb2⟩; have HX2 := hide (Below.next (unhide HX_1) hb2 (Nat.le_refl _)); clear hb2)
    go_ret
    exact ⟨rfl, unhide HX2⟩
  | false =>
    have hv : us.length + fs.length ≤ 6000 := by have := of_decide_eq_false (unhide HVS); omega
    have hn : n ≤ 6000 := by have := unhide HNU; omega
    have hm : m ≤ 6000 := by have := unhide HNF; omega
    have HOW : Hid (∀ W, Below w.heap.size w W → Calls Try.prog 9 #[.agg #[.int .i64 b, .slice a0 n c0, .slice a1 m c1]] W fun e w' => ∃ sv, e = .returned sv ∧ NewS W.heap.size w' sv b us fs ∧ Below W.heap.size W w') := fun W hW => ownSpace_any W _ b us fs ((unhide HI).below hW) (by omega) (by omega)
    have HSF : Hid (∀ W, Below w.heap.size w W → Calls Try.prog 13 #[.agg #[.int .i64 b, .slice a0 n c0, .slice a1 m c1]] W fun e w' => e = .returned (faultV (spaceF b us fs)) ∧ Below W.heap.size W w') := fun W hW => refFault_any W _ b us fs ((unhide HI).below hW) (by omega) (by omega)
    have HGI : Hid (∀ W sv, IsS W sv b us fs → Calls Try.prog 17 #[sv, .int .i64 s] W fun e w' => ∃ au nu cu af nf cf, e = .returned (.tuple #[.agg #[.int .i64 (giveR b us fs s).2.1, .slice au nu cu, .slice af nf cf], .agg #[.int .i64 (giveR b us fs s).1.1, .int .i64 (giveR b us fs s).1.2]]) ∧ IsS w' (.agg #[.int .i64 (giveR b us fs s).2.1, .slice au nu cu, .slice af nf cf]) (giveR b us fs s).2.1 (giveR b us fs s).2.2.1 (giveR b us fs s).2.2.2 ∧ Below W.heap.size W w') := fun W sv hs => give_any W sv b us fs s hs (by omega) (by omega) (unhide HB1') (unhide HB2')
    obtain ⟨⟨⟨FC, FA⟩, b', us', fs'⟩, eG⟩ : ∃ G, giveR b us fs s = G := ⟨_, rfl⟩
    rw [eG] at HGI
    simp only at HGI
    have HG := hide eG
    obtain ⟨⟨wc, wa⟩, eS⟩ : ∃ S, spaceF b us fs = S := ⟨_, rfl⟩
    rw [eS] at HSF
    have HS := hide eS
    clear eG eS HB1' HB2' HVS HBG hv
    go_upto_region 5 with (go_at_call 8; refine (unhide HV _ (unhide HX_1)).mono ?_; rintro e w2 ⟨rfl, hb2⟩; have HX_2 := hide (Below.next (unhide HX_1) hb2 (by first | exact Nat.le_refl _ | (have := unhide HBA; omega))); have Kp_2 := hide (keep_below (unhide Kp_1) hb2); clear HX_1 Kp_1; clear hb2 HV p0 p1 p2 pf0 pf1 pf2 pl)
    obtain ⟨⟨p0, p1, p2⟩, ⟨pf0, pf1, pf2⟩, pl⟩ := block3 (unhide Kp_2)
    go_upto_region 6 with (first
      | (go_at_call 9; refine (unhide HOW _ (unhide HX_2)).mono ?_; rintro e w3 ⟨sv, rfl, hs3, hb3⟩; obtain ⟨a3, c3, a4, c4, rfl, hu3, hf3⟩ := hs3; have HI3 : Hid (IsS w3 (.agg #[.int .i64 b, .slice a3 us.length c3, .slice a4 fs.length c4]) b us fs) := ⟨_, _, rfl, hu3.1, hf3.1⟩; have HX_3 := hide (Below.next (unhide HX_2) hb3 (by first | exact Nat.le_refl _ | (have := unhide HBA; omega))); have Kp_3 := hide (keep_below (unhide Kp_2) hb3); clear HX_2 Kp_2; clear hu3 hf3 hb3)
      | (go_at_call 17; refine (unhide HGI _ _ (unhide HI3)).mono ?_; rintro e w4 ⟨au, nu, cu, af, nf, cf, rfl, hs4, hb4⟩; have HI4 := hide hs4; have HX_4 := hide (Below.next (unhide HX_3) hb4 (by first | exact Nat.le_refl _ | (have := unhide HBA; omega))); have Kp_4 := hide (keep_below (unhide Kp_3) hb4); clear HX_3 Kp_3; clear hs4 hb4 p0 p1 p2 pf0 pf1 pf2 pl))
    obtain ⟨W5, eW5, hBW5, k0_5, k1_5⟩ := two_new w4 (.cells #[.int .i64 b', .slice au nu cu, .slice af nf cf] 24) (.cells #[.int .i64 FC, .int .i64 FA] 29)
    rw [eW5]
    clear eW5
    have hlp_s : w.heap.size < w4.heap.size := size_of (unhide Kp_4)
    (have HX_5 := hide (Below.next (unhide HX_4) hBW5 (by first | exact Nat.le_refl _ | (have := unhide HBA; omega))); have Kp_5 := hide (keep_below (unhide Kp_4) hBW5); clear HX_4 Kp_4)
    obtain ⟨T, eT⟩ : ∃ X, w4.heap.size = X := ⟨_, rfl⟩
    rw [eT] at k0_5 k1_5 hlp_s ⊢
    have Ks_5 := hide k0_5
    have Kf_5 := hide k1_5
    have HBW := hBW5
    clear eT hBW5 k0_5 k1_5
    have HI5 := hide ((unhide HI4).below HBW)
    clear HBW HI4 HI3
    obtain ⟨⟨p0, p1, p2⟩, ⟨pf0, pf1, pf2⟩, pl⟩ := block3 (unhide Kp_5)
    go_upto_region 7 with (go_at_call 13; refine (unhide HSF _ (unhide HX_5)).mono ?_; rintro e w6 ⟨he, hb6⟩; obtain rfl : e = .returned (.agg #[.int .i64 wc, .int .i64 wa]) := he; have HX_6 := hide (Below.next (unhide HX_5) hb6 (by first | exact Nat.le_refl _ | (have := unhide HBA; omega))); have Kp_6 := hide (keep_below (unhide Kp_5) hb6); have Ks_6 := hide (keep_below (unhide Ks_5) hb6); have Kf_6 := hide (keep_below (unhide Kf_5) hb6); have Fi_6 := hide ((unhide HI5).below hb6); clear HX_5 Kp_5 Ks_5 Kf_5 HI5; clear hb6 p0 p1 p2 pf0 pf1 pf2 pl)
    have HX_7 := hide ((unhide HX_6).alloc (Nat.le_trans (show w.heap.size ≤ w.heap.size from Nat.le_refl _) (unhide HX_6).size) (.cells #[.int .i64 wc, .int .i64 wa] 29))
    have Kp_7 := hide (keep_alloc (unhide Kp_6) (.cells #[.int .i64 wc, .int .i64 wa] 29))
    have Ks_7 := hide (keep_alloc (unhide Ks_6) (.cells #[.int .i64 wc, .int .i64 wa] 29))
    have Kf_7 := hide (keep_alloc (unhide Kf_6) (.cells #[.int .i64 wc, .int .i64 wa] 29))
    have Fi_7 := hide ((unhide Fi_6).below ((Below.refl _ _).alloc (Nat.le_refl _) (.cells #[.int .i64 wc, .int .i64 wa] 29)))
    have Kg_7 := hide (new_block w6 (.cells #[.int .i64 wc, .int .i64 wa] 29))
    have hlp_g : w.heap.size < w6.heap.size := size_of (unhide Kp_6)
    have hls_g : T < w6.heap.size := size_of (unhide Ks_6)
    have hlf_g : T + 1 < w6.heap.size := size_of (unhide Kf_6)
    obtain ⟨T2, eT2⟩ : ∃ X, w6.heap.size = X := ⟨_, rfl⟩
    obtain ⟨W7, eW7⟩ : ∃ X, w6.alloc (.cells #[.int .i64 wc, .int .i64 wa] 29) = X := ⟨_, rfl⟩
    rw [eT2, eW7] at Kg_7; rw [eW7] at HX_7 Kp_7 Ks_7 Kf_7 Fi_7; rw [eT2] at hlp_g hls_g hlf_g; rw [eT2, eW7]
    clear eT2 eW7 HX_6 Kp_6 Ks_6 Kf_6 Fi_6
    obtain ⟨⟨p0, p1, p2⟩, ⟨pf0, pf1, pf2⟩, pl⟩ := block3 (unhide Kp_7)
    go_upto_region 9 with fail
    go_loopw [8, 9] (fun s8 s9 wr => ∃ j : Nat, j ≤ n ∧ s9 = .int .i64 (j : Int) ∧ s8 = .int .i64 (lastK us s j) ∧ Hid (wr = W7)) (fun _ s9 _ => n - (intOf s9).toNat)
    case atStart => exact ⟨0, Nat.zero_le _, rfl, rfl, hide rfl⟩
    case round =>
      obtain ⟨j, hj, rfl, rfl, HW⟩ := hrel
      obtain rfl : wr = W7 := unhide HW
      by_cases hlt : j < n
      · obtain ⟨b0, o0, rfl, hb0, l0⟩ := unhide HOP (by omega)
        have hju : j < us.length := by rw [unhide HNU]; exact hlt
        obtain ⟨⟨t, c⟩, hx⟩ : ∃ z, aAt us j = z := ⟨_, rfl⟩
        obtain ⟨k0, k1⟩ := (l0.below (unhide HX_7) hb0).block (j := j) hju hx
        have HK : Hid (lastK us s (j + 1) = if t = s then (j : Int) else lastK us s j) := by show (if (aAt us j).1 = s then (j : Int) else lastK us s j) = _; rw [hx]
        obtain ⟨K, eK⟩ : ∃ K, lastK us s j = K := ⟨_, rfl⟩
        rw [eK] at HK ⊢
        have i0 : (0 : Int) ≤ (j : Int) := by omega
        have i1 : (j : Int) < (n : Int) := by omega
        have hw3 : IntKind.i64.wrap ((j : Int) + 1) = (j : Int) + 1 := wrapi (by omega) (by omega)
        clear hx l0 hb0 hju
        have HEK := hide eK
        clear eK
        by_cases ht : t = s
        · have hb4 : (t == s) = true := by simpa using ht
          have HK2 : Hid (lastK us s (j + 1) = (j : Int)) := by rw [unhide HK, if_pos ht]; exact rfl
          have HT := hide ht
          clear ht HK
          go_wp2_with fail
          go_roundw
          case rel => first | exact ⟨j + 1, by omega, by go_num, by rw [unhide HK2], hide rfl⟩ | exact ⟨j + 1, by omega, by go_num, by rw [unhide HK2], hide trivial⟩
          case measure => simp [intOf]; omega
        · have hb4 : (t == s) = false := by simpa using ht
          have HK2 : Hid (lastK us s (j + 1) = K) := by rw [unhide HK, if_neg ht]; exact rfl
          clear HK
          go_wp2_with fail
          go_roundw
          case rel => first | exact ⟨j + 1, by omega, by go_num, by rw [unhide HK2], hide rfl⟩ | exact ⟨j + 1, by omega, by go_num, by rw [unhide HK2], hide trivial⟩
          case measure => simp [intOf]; omega
      · obtain rfl : j = n := by omega
        have i1 : ¬ (j : Int) < (j : Int) := by omega
        have HLK := hide (lastK_cases us s j)
        by_cases hwc : wc = 0
        · have hz : spaceF b us fs = (0, 0) := spaceF_zero (by rw [unhide HS]; exact hwc)
          have hwa : wa = 0 := by have := (unhide HS).symm.trans hz; exact congrArg Prod.snd this
          subst hwc hwa
          have hbe : ((0 : Int) == 0) = true := rfl
          rcases unhide HLK with ⟨hK, hnone⟩ | ⟨kk, hK, hkl, hks⟩
          · rw [hK]
            have hG := unhide HG
            unfold giveR at hG
            rw [if_neg (by rw [hz]; simp), if_neg (fun hp => hnone _ (by have := hp.1; rw [unhide HNU] at this; exact this) hp.2)] at hG
            cases hG
            have hq : ∀ w, (Op.equalIn 10000 29 (.agg #[.int .i64 6, .int .i64 0]) (.agg #[.int .i64 6, .int .i64 0])).run Try.prog w = .ok true w := fun w => by rw [flt_eq]; rfl
            clear HG HS HLK hz hnone hK
            obtain ⟨g0, g1, gf0, gf1, gl⟩ := block2 (unhide Kg_7)
            go_upto_region 15 with (go_at_call 15; refine (f_any _ _ _).mono ?_; rintro e w8 ⟨rfl, hb8⟩; have HX_8 := hide (Below.next (unhide HX_7) hb8 (by first | exact Nat.le_refl _ | (have := unhide HBA; omega))); have Kp_8 := hide (keep_below (unhide Kp_7) hb8); have Ks_8 := hide (keep_below (unhide Ks_7) hb8); have Kf_8 := hide (keep_below (unhide Kf_7) hb8); have Kg_8 := hide (keep_below (unhide Kg_7) hb8); have Fi_8 := hide ((unhide Fi_7).below hb8); clear HX_7 Kp_7 Ks_7 Kf_7 Kg_7 Fi_7; clear hb8 g0 g1 gf0 gf1 gl; obtain ⟨g0, g1, gf0, gf1, gl⟩ := block2 (unhide Kg_8))
            clear g0 g1 gf0 gf1 gl
            have HX_9 := hide (put2_below (y0 := .int .i64 6) (y1 := .int .i64 0) (unhide HX_8) (show w.heap.size ≤ T2 by first | omega | (have := unhide HBA; omega)))
            have Kp_9 := hide ((put2_keep (y0 := .int .i64 6) (y1 := .int .i64 0) (show w.heap.size ≠ T2 by omega)).trans (unhide Kp_8))
            have Ks_9 := hide ((put2_keep (y0 := .int .i64 6) (y1 := .int .i64 0) (show T ≠ T2 by omega)).trans (unhide Ks_8))
            have Kf_9 := hide ((put2_keep (y0 := .int .i64 6) (y1 := .int .i64 0) (show T + 1 ≠ T2 by omega)).trans (unhide Kf_8))
            have Kg_9 := hide (put2_new (y0 := .int .i64 6) (y1 := .int .i64 0) (unhide Kg_8))
            obtain ⟨W9, eW9⟩ : ∃ X, put2 w8 (T2) (.int .i64 6) (.int .i64 0) = X := ⟨_, rfl⟩
            rw [eW9] at HX_9 Kp_9 Ks_9 Kf_9 Kg_9
            have eW92 : ((w8).setCell ⟨T2, 0, none⟩ (.int .i64 6)).setCell ⟨T2, 1, none⟩ (.int .i64 0) = W9 := eW9
            rw [eW92]
            clear eW9 eW92 HX_8 Kp_8 Ks_8 Kf_8 Kg_8
            obtain ⟨⟨r0, r1, r2⟩, ⟨rf0, rf1, rf2⟩, rl⟩ := block3 (unhide Ks_9)
            obtain ⟨q0, q1, qf0, qf1, ql⟩ := block2 (unhide Kf_9)
            obtain ⟨g0, g1, gf0, gf1, gl⟩ := block2 (unhide Kg_9)
            go_wp2_with (go_at_call 14; refine (sameSpace_same _ _ _ 0 [] [] (isS_empty (unhide Fi_8)) (zero_s _) (by simp) (by simp)).mono ?_; rintro e w9 ⟨rfl, hb9⟩; have HX9 := hide (Below.next (unhide HX_9) hb9 (Nat.le_refl _)); clear hb9)
            go_ret
            exact ⟨rfl, unhide HX9⟩
          · rw [hK]
            have hku : kk < us.length := by rw [unhide HNU]; exact hkl
            have hpl := place_at (spaceF_good hz).2.2.1.2 hku hks
            have hG := unhide HG
            unfold giveR at hG
            rw [if_neg (by rw [hz]; simp), if_pos (by rw [hpl]; exact ⟨hku, hks⟩), hpl] at hG
            have hx2 : aAt us kk = (s, (aAt us kk).2) := by rw [← hks]
            obtain ⟨sz, esz⟩ : ∃ z, (aAt us kk).2 = z := ⟨_, rfl⟩
            rw [esz] at hx2
            rw [hx2] at hG
            have hmem : (s, sz) ∈ us := by rw [← hx2]; exact aAt_mem hku
            have HRT : Hid (∀ W, Below w.heap.size w W → Calls Try.prog 18 #[.agg #[.int .i64 b, .slice a0 j c0, .slice a1 m c1], .agg #[.int .i64 s, .int .i64 sz]] W fun e w' => ∃ sv, e = .returned sv ∧ NewS W.heap.size w' sv b (noB (s, sz) us) (joinL fs (s, sz)) ∧ Below W.heap.size W w') := fun W hW => returned_any W _ b us fs s sz ((unhide HI).below hW) (by rw [unhide HNU]; omega) (by rw [unhide HNF]; omega) (spaceF_good hz).1.1 (spaceF_good hz).1.2 (join_of hz hmem)
            have hll : (noB (s, sz) us).length ≤ 100000 ∧ (joinL fs (s, sz)).length ≤ 100000 := by
              have h1 := (noB_sub (s, sz) us).length_le
              have h2 := joinL_len fs (s, sz)
              rw [unhide HNU] at h1
              rw [unhide HNF] at h2
              omega
            obtain ⟨b0, o0, ha0, hb0, l0⟩ := unhide HOP (by omega)
            subst ha0
            have HCL := hide (fun W (hW : Below w.heap.size w W) => (l0.below hW hb0).block (j := kk) hku hx2)
            cases hG
            have hq : ∀ w, (Op.equalIn 10000 29 (.agg #[.int .i64 0, .int .i64 0]) (.agg #[.int .i64 0, .int .i64 0])).run Try.prog w = .ok true w := fun w => by rw [flt_eq]; rfl
            have HLL := hide hll
            have i2 : (0 : Int) ≤ (kk : Int) := by omega
            have i3 : (kk : Int) < (j : Int) := by omega
            have i4 : ¬ (kk : Int) < 0 := by omega
            clear HG HS HLK hz hK hku hpl hks hx2 esz hmem l0 hb0 hll HOP
            obtain ⟨q0, q1, qf0, qf1, ql⟩ := block2 (unhide Kf_7)
            obtain ⟨g0, g1, gf0, gf1, gl⟩ := block2 (unhide Kg_7)
            have HSS : Hid (∀ W, Below wr.heap.size wr W → (((W.cell? ⟨w.heap.size, 0, none⟩ = some (.int .i64 b) ∧ W.cell? ⟨w.heap.size, 1, none⟩ = some (.slice (some ⟨b0, o0, none⟩) j c0) ∧ W.cell? ⟨w.heap.size, 2, none⟩ = some (.slice a1 m c1)) ∧ (W.cell? ⟨T, 0, none⟩ = some (.int .i64 b) ∧ W.cell? ⟨T, 1, none⟩ = some (.slice au nu cu) ∧ W.cell? ⟨T, 2, none⟩ = some (.slice af nf cf))) ∧ (W.cell? ⟨b0, o0 + kk * 2, none⟩ = some (.int .i64 s) ∧ W.cell? ⟨b0, o0 + kk * 2 + 1, none⟩ = some (.int .i64 sz)))) := fun W hW => ⟨⟨(block3 (keep_below (unhide Kp_7) hW)).1, (block3 (keep_below (unhide Ks_7) hW)).1⟩, unhide HCL _ (Below.next (unhide HX_7) hW (Nat.le_refl _))⟩
            go_upto_region 19 with fail
            obtain ⟨⟨⟨y0, y1, y2⟩, x0, x1, x2⟩, u0, u1⟩ := unhide HSS _ (Below.refl _ _)
            go_region_held3 (fun W => (((W.cell? ⟨w.heap.size, 0, none⟩ = some (.int .i64 b) ∧ W.cell? ⟨w.heap.size, 1, none⟩ = some (.slice (some ⟨b0, o0, none⟩) j c0) ∧ W.cell? ⟨w.heap.size, 2, none⟩ = some (.slice a1 m c1)) ∧ (W.cell? ⟨T, 0, none⟩ = some (.int .i64 b) ∧ W.cell? ⟨T, 1, none⟩ = some (.slice au nu cu) ∧ W.cell? ⟨T, 2, none⟩ = some (.slice af nf cf))) ∧ (W.cell? ⟨b0, o0 + kk * 2, none⟩ = some (.int .i64 s) ∧ W.cell? ⟨b0, o0 + kk * 2 + 1, none⟩ = some (.int .i64 sz))))
              (first | with_reducible exact unhide HSS _ (Below.refl _ _).drew | with_reducible exact unhide HSS _ (unhide HY5) | with_reducible exact unhide HSS _ (unhide HY6))
              (first
                | (go_at_call 18; refine (unhide HRT _ (Below.next (unhide HX_7) (Below.refl _ _).drew (Nat.le_refl _))).mono ?_; rintro e w5 ⟨sv, rfl, hs5, hb5⟩; have HY5 : Hid (Below wr.heap.size wr w5) := Below.next (Below.refl _ _).drew hb5 (Nat.le_refl _); have HI6 := hide hs5.s; clear hs5 hb5)
                | (go_at_call 14; refine (sameSpace_same _ _ _ _ _ _ ((unhide Fi_7).below (unhide HY5)) (unhide HI6) (unhide HLL).1 (unhide HLL).2).mono ?_; rintro e w6 ⟨rfl, hb6⟩; have HY6 : Hid (Below wr.heap.size wr w6) := Below.next (unhide HY5) hb6 (Nat.le_refl _); clear hb6))
            all_goals
              go_wp2_with fail
              go_ret
              exact ⟨rfl, Below.next (unhide HX_7) (unhide HY6) (Nat.le_refl _)⟩
        · have hG := unhide HG
          unfold giveR at hG
          rw [if_pos (by rw [unhide HS]; exact hwc), unhide HS] at hG
          cases hG
          have hq : ∀ w, (Op.equalIn 10000 29 (.agg #[.int .i64 FC, .int .i64 FA]) (.agg #[.int .i64 FC, .int .i64 FA])).run Try.prog w = .ok true w := fun w => by rw [flt_eq]; simp
          have hbe : (FC == 0) = false := by simpa using hwc
          have hbn : (FC != 0) = true := by simpa using hwc
          clear HG HS HLK
          obtain ⟨⟨r0, r1, r2⟩, ⟨rf0, rf1, rf2⟩, rl⟩ := block3 (unhide Ks_7)
          obtain ⟨q0, q1, qf0, qf1, ql⟩ := block2 (unhide Kf_7)
          obtain ⟨g0, g1, gf0, gf1, gl⟩ := block2 (unhide Kg_7)
          go_wp2_with (go_at_call 14; refine (sameSpace_same _ _ _ 0 [] [] (unhide Fi_7) (zero_s _) (by simp) (by simp)).mono ?_; rintro e w9 ⟨rfl, hb9⟩; have HX9 := hide (Below.next (unhide HX_7) hb9 (Nat.le_refl _)); clear hb9)
          go_ret
          exact ⟨rfl, unhide HX9⟩
end Go.Proofs.Ytomhfnjnmhdpkaa
