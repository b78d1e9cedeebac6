/-
  taskmilllaw.OrderClocks: where the two numbers are no events.
-/
import Derived.Test.YtbnmeeabpjmcoaaZp
namespace Go.Proofs.Ytbnmeeabpjmcoaa
open Go.RowKit


set_option maxRecDepth 100000 in
set_option maxHeartbeats 4000000 in
theorem oc_out1_small (w : World) (a0 : Option Addr) (n0 c0 : Nat) (a1 : Option Addr) (n1 c1 : Nat) (l : List Ev) (hs : List Int) (hl : IsL KE w (.slice a0 n0 c0) l) (hh : IsL KI w (.slice a1 n1 c1) hs) (h1 : ¬ 300 < n0) (_h2 : ¬ 3000 < n0) (h3 : ¬ 100 < n1) (hg : GoodT hs l) (zi zk : Int) (hz : zi < 0) :
    Calls Try.prog 3 #[.slice a0 n0 c0, .slice a1 n1 c1, .int .i64 zi, .int .i64 zk] w fun e w' => e = .returned (.bool true) ∧ Below w.heap.size w w' := by
  have hln := hl.len
  have hhn := hh.len
  have d1 : ¬ (300 : Int) < (n0 : Int) := by omega
  have g2 : ¬ (3000 : Int) < (n0 : Int) := by omega
  have g3 : ¬ (100 : Int) < (n1 : Int) := by omega
  have hf := hg.zero
  obtain ⟨m, hm⟩ : ∃ m : Nat, lastL l = (m : Int) := ⟨(lastL l).toNat, by have := (hg.last l.length (Nat.le_refl _)).1; rw [List.take_length] at this; omega⟩
  have HG := hide hg; have HML := hide hm
  have HOT : Hid (∀ W, Below w.heap.size w W → Calls Try.prog 10 #[.slice a0 n0 c0] W fun e w' => ∃ a' c', e = .returned (.slice a' n0 c') ∧ IsL KE w' (.slice a' n0 c') l ∧ Below W.heap.size W w') := fun W hW => by
    have h_ := ownTrace_any W _ l (hl.below hW) (by rw [hln]; omega)
    rw [hln] at h_
    exact h_.mono fun _ _ ⟨a', c', q1, q2, q3⟩ => ⟨a', c', q1, q2.isl, q3⟩
  have HOI : Hid (∀ W, Below w.heap.size w W → Calls Try.prog 11 #[.slice a1 n1 c1] W fun e w' => ∃ a' c', e = .returned (.slice a' n1 c') ∧ IsL KI w' (.slice a' n1 c') hs ∧ Below W.heap.size W w') := fun W hW => by
    have h_ := own_any W _ hs (hh.below hW) (by rw [hhn]; omega)
    rw [hhn] at h_
    exact h_.mono fun _ _ ⟨a', c', q1, q2, q3⟩ => ⟨a', c', q1, q2.isl, q3⟩
  have HCK : Hid (∀ W a c a' c', IsL KE W (.slice a n0 c) l → IsL KI W (.slice a' n1 c') hs → Calls Try.prog 12 #[.slice a n0 c, .slice a' n1 c'] W fun e w' => e = .returned (.agg #[.int .i64 0, .int .i64 0]) ∧ Below W.heap.size W w') := fun W a c a' c' q1 q2 => by
    have h_ := check_any W a n0 c a' n1 c' l hs q1 q2
    rwa [hf] at h_
  have HTF : Hid (∀ W, Below w.heap.size w W → Calls Try.prog 15 #[.slice a0 n0 c0, .slice a1 n1 c1] W fun e w' => e = .returned (.agg #[.int .i64 0, .int .i64 0]) ∧ Below W.heap.size W w') := fun W hW => by
    have h_ := tf_any W a0 n0 c0 a1 n1 c1 l hs (hl.below hW) (hh.below hW)
    rwa [hf] at h_
  have HCL : Hid (∀ W a c a' c', IsL KE W (.slice a n0 c) l → IsL KI W (.slice a' n1 c') hs → Calls Try.prog 13 #[.slice a n0 c, .slice a' n1 c'] W fun e w' => ∃ G, e = .returned (.tuple #[.slice (some ⟨G, 0, none⟩) n0 n0, .agg #[.int .i64 0, .int .i64 0]]) ∧ Rows2 (W.heap.size + 1) w' G n0 (rowL hs l m) m n0 ∧ W.heap.size + 1 ≤ G ∧ Below W.heap.size W w') := fun W a c a' c' q1 q2 => clocks_good W a n0 c a' n1 c' l hs q1 q2 hg m hm
  have HBE : Hid (∀ W a c a' c', IsL KE W (.slice a n0 c) l → IsL KI W (.slice a' n1 c') hs → Calls Try.prog 14 #[.slice a n0 c, .slice a' n1 c', .int .i64 zi, .int .i64 zk] W fun e w' => e = .returned (.tuple #[.bool false, .agg #[.int .i64 3, .int .i64 (-1)]]) ∧ Below W.heap.size W w') := fun W a c a' c' q1 q2 => before_out1 W a n0 c a' n1 c' l hs q1 q2 hg zi zk (by omega)
  have HST : Hid (∀ W a c, IsL KE W (.slice a n0 c) l → Below w.heap.size w W → Calls Try.prog 16 #[.slice a n0 c, .slice a0 n0 c0] W fun e w' => e = .returned (.bool true) ∧ Below W.heap.size W w') := fun W a c q1 hW => trace_same W _ _ l q1 (hl.below hW) (by rw [hln]; omega)
  have HIN : Hid (∀ W a c, IsL KI W (.slice a n1 c) hs → Below w.heap.size w W → Calls Try.prog 17 #[.slice a n1 c, .slice a1 n1 c1] W fun e w' => e = .returned (.bool true) ∧ Below W.heap.size W w') := fun W a c q1 hW => ints_same W _ _ hs q1 (hh.below hW) (by rw [hhn]; unfold maxLen; omega)
  have HL := hide hl; have HH := hide hh
  clear hl hh hln hhn hf
  go_enter Try.func3, Try.ntmps3
  go_upto_region 5 with (go_at_call 9; (with_reducible refine Calls.mono (begun_any _) ?_); rintro e w1 ⟨rfl, hb1⟩; have HX_0 := hide hb1; clear hb1)
  go_upto_region 6 with (first
    | (go_at_call 10; (with_reducible refine Calls.mono (unhide HOT _ (unhide HX_0)) ?_); rintro e w2 ⟨a2, c2, rfl, hi2, hb2⟩; have HX_1 := hide (Below.next (unhide HX_0) hb2 (Nat.le_refl _)); clear HX_0; have HIX_1 := hide hi2; clear hi2 hb2)
    | (go_at_call 11; (with_reducible refine Calls.mono (unhide HOI _ (unhide HX_1)) ?_); rintro e w3 ⟨a3, c3, rfl, hi3, hb3⟩; have HX_2 := hide (Below.next (unhide HX_1) hb3 (Nat.le_refl _)); have HIX_2 := hide ((unhide HIX_1).below hb3); clear HX_1 HIX_1; have HIY_2 := hide hi3; clear hi3 hb3))
  clear HOT HOI
  go_upto_region 7 with (go_at_call 12; (with_reducible refine Calls.mono (unhide HCK _ _ _ _ _ (unhide HIX_2) (unhide HIY_2)) ?_); rintro e w4 ⟨rfl, hb4⟩; have HX_3 := hide (Below.next (unhide HX_2) hb4 (Nat.le_refl _)); have HIX_3 := hide ((unhide HIX_2).below hb4); have HIY_3 := hide ((unhide HIY_2).below hb4); clear HX_2 HIX_2 HIY_2; clear hb4)
  have HX_4 := hide ((unhide HX_3).alloc (unhide HX_3).size (.cells #[.int .i64 0, .int .i64 0] 28))
  have HIX_4 := hide ((unhide HIX_3).below ((Below.refl _ _).alloc (Nat.le_refl _) (.cells #[.int .i64 0, .int .i64 0] 28)))
  have HIY_4 := hide ((unhide HIY_3).below ((Below.refl _ _).alloc (Nat.le_refl _) (.cells #[.int .i64 0, .int .i64 0] 28)))
  have HC_4 := hide (new_block w4 (.cells #[.int .i64 0, .int .i64 0] 28))
  obtain ⟨C, eC⟩ : ∃ X, w4.heap.size = X := ⟨_, rfl⟩
  obtain ⟨W4, eW4⟩ : ∃ X, w4.alloc (.cells #[.int .i64 0, .int .i64 0] 28) = X := ⟨_, rfl⟩
  rw [eW4] at HX_4
  rw [eW4] at HIX_4
  rw [eW4] at HIY_4
  rw [eC, eW4] at HC_4
  rw [eC, eW4]
  clear eC eW4 HX_3 HIX_3 HIY_3
  clear HCK
  go_upto_region 8 with (go_at_call 13; (with_reducible refine Calls.mono (unhide HCL _ _ _ _ _ (unhide HIX_4) (unhide HIY_4)) ?_); rintro e w5 ⟨G, rfl, hr5, _, hb5⟩; have HX_5 := hide (Below.next (unhide HX_4) hb5 (Nat.le_refl _)); have HIX_5 := hide ((unhide HIX_4).below hb5); have HIY_5 := hide ((unhide HIY_4).below hb5); have HC_5 := hide (keep_below (unhide HC_4) hb5); clear HX_4 HIX_4 HIY_4 HC_4; have HR_5 := hide hr5; clear hr5 hb5)
  have HX_6 := hide ((unhide HX_5).alloc (unhide HX_5).size (.cells #[.int .i64 0, .int .i64 0] 28))
  have HIX_6 := hide ((unhide HIX_5).below ((Below.refl _ _).alloc (Nat.le_refl _) (.cells #[.int .i64 0, .int .i64 0] 28)))
  have HIY_6 := hide ((unhide HIY_5).below ((Below.refl _ _).alloc (Nat.le_refl _) (.cells #[.int .i64 0, .int .i64 0] 28)))
  have HC_6 := hide (keep_alloc (unhide HC_5) (.cells #[.int .i64 0, .int .i64 0] 28))
  have HR_6 := hide ((unhide HR_5).below ((Below.refl _ _).alloc (Nat.le_refl _) (.cells #[.int .i64 0, .int .i64 0] 28)))
  have HF_6 := hide (new_block w5 (.cells #[.int .i64 0, .int .i64 0] 28))
  obtain ⟨F1, eF1⟩ : ∃ X, w5.heap.size = X := ⟨_, rfl⟩
  obtain ⟨W6, eW6⟩ : ∃ X, w5.alloc (.cells #[.int .i64 0, .int .i64 0] 28) = X := ⟨_, rfl⟩
  rw [eW6] at HX_6
  rw [eW6] at HIX_6
  rw [eW6] at HIY_6
  rw [eW6] at HC_6
  rw [eW6] at HR_6
  rw [eF1, eW6] at HF_6
  rw [eF1, eW6]
  clear eF1 eW6 HX_5 HIX_5 HIY_5 HC_5 HR_5
  clear HCL
  go_upto_region 9 with (go_at_call 14; (with_reducible refine Calls.mono (unhide HBE _ _ _ _ _ (unhide HIX_6) (unhide HIY_6)) ?_); rintro e w6 ⟨rfl, hb6⟩; have HX_7 := hide (Below.next (unhide HX_6) hb6 (Nat.le_refl _)); have HIX_7 := hide ((unhide HIX_6).below hb6); have HIY_7 := hide ((unhide HIY_6).below hb6); have HC_7 := hide (keep_below (unhide HC_6) hb6); have HR_7 := hide ((unhide HR_6).below hb6); have HF_7 := hide (keep_below (unhide HF_6) hb6); clear HX_6 HIX_6 HIY_6 HC_6 HR_6 HF_6; clear hb6)
  have HX_8 := hide ((unhide HX_7).alloc (unhide HX_7).size (.cells #[.int .i64 3, .int .i64 (-1)] 28))
  have HIX_8 := hide ((unhide HIX_7).below ((Below.refl _ _).alloc (Nat.le_refl _) (.cells #[.int .i64 3, .int .i64 (-1)] 28)))
  have HIY_8 := hide ((unhide HIY_7).below ((Below.refl _ _).alloc (Nat.le_refl _) (.cells #[.int .i64 3, .int .i64 (-1)] 28)))
  have HC_8 := hide (keep_alloc (unhide HC_7) (.cells #[.int .i64 3, .int .i64 (-1)] 28))
  have HR_8 := hide ((unhide HR_7).below ((Below.refl _ _).alloc (Nat.le_refl _) (.cells #[.int .i64 3, .int .i64 (-1)] 28)))
  have HF_8 := hide (keep_alloc (unhide HF_7) (.cells #[.int .i64 3, .int .i64 (-1)] 28))
  have HP_8 := hide (new_block w6 (.cells #[.int .i64 3, .int .i64 (-1)] 28))
  obtain ⟨F2, eF2⟩ : ∃ X, w6.heap.size = X := ⟨_, rfl⟩
  obtain ⟨W8, eW8⟩ : ∃ X, w6.alloc (.cells #[.int .i64 3, .int .i64 (-1)] 28) = X := ⟨_, rfl⟩
  rw [eW8] at HX_8
  rw [eW8] at HIX_8
  rw [eW8] at HIY_8
  rw [eW8] at HC_8
  rw [eW8] at HR_8
  rw [eW8] at HF_8
  rw [eF2, eW8] at HP_8
  rw [eF2, eW8]
  clear eF2 eW8 HX_7 HIX_7 HIY_7 HC_7 HR_7 HF_7
  clear HBE
  go_upto_region 10 with (go_at_call 15; (with_reducible refine Calls.mono (unhide HTF _ (unhide HX_8)) ?_); rintro e w7 ⟨rfl, hb7⟩; have HX_9 := hide (Below.next (unhide HX_8) hb7 (Nat.le_refl _)); have HIX_9 := hide ((unhide HIX_8).below hb7); have HIY_9 := hide ((unhide HIY_8).below hb7); have HC_9 := hide (keep_below (unhide HC_8) hb7); have HR_9 := hide ((unhide HR_8).below hb7); have HF_9 := hide (keep_below (unhide HF_8) hb7); have HP_9 := hide (keep_below (unhide HP_8) hb7); clear HX_8 HIX_8 HIY_8 HC_8 HR_8 HF_8 HP_8; clear hb7)
  have HX_10 := hide ((unhide HX_9).alloc (unhide HX_9).size (.cells #[.int .i64 0, .int .i64 0] 28))
  have HIX_10 := hide ((unhide HIX_9).below ((Below.refl _ _).alloc (Nat.le_refl _) (.cells #[.int .i64 0, .int .i64 0] 28)))
  have HIY_10 := hide ((unhide HIY_9).below ((Below.refl _ _).alloc (Nat.le_refl _) (.cells #[.int .i64 0, .int .i64 0] 28)))
  have HC_10 := hide (keep_alloc (unhide HC_9) (.cells #[.int .i64 0, .int .i64 0] 28))
  have HR_10 := hide ((unhide HR_9).below ((Below.refl _ _).alloc (Nat.le_refl _) (.cells #[.int .i64 0, .int .i64 0] 28)))
  have HF_10 := hide (keep_alloc (unhide HF_9) (.cells #[.int .i64 0, .int .i64 0] 28))
  have HP_10 := hide (keep_alloc (unhide HP_9) (.cells #[.int .i64 0, .int .i64 0] 28))
  have HD_10 := hide (new_block w7 (.cells #[.int .i64 0, .int .i64 0] 28))
  obtain ⟨D, eD⟩ : ∃ X, w7.heap.size = X := ⟨_, rfl⟩
  obtain ⟨W10, eW10⟩ : ∃ X, w7.alloc (.cells #[.int .i64 0, .int .i64 0] 28) = X := ⟨_, rfl⟩
  rw [eW10] at HX_10
  rw [eW10] at HIX_10
  rw [eW10] at HIY_10
  rw [eW10] at HC_10
  rw [eW10] at HR_10
  rw [eW10] at HF_10
  rw [eW10] at HP_10
  rw [eD, eW10] at HD_10
  rw [eD, eW10]
  clear eD eW10 HX_9 HIX_9 HIY_9 HC_9 HR_9 HF_9 HP_9
  clear HTF
  obtain ⟨g0, g1, gf0, gf1, gl⟩ := block2 (unhide HC_10)
  obtain ⟨p0, p1, pf0, pf1, pl⟩ := block2 (unhide HF_10)
  obtain ⟨q0, q1, qf0, qf1, ql⟩ := block2 (unhide HD_10)
  go_upto_region 12 with (first
    | (go_at_call 16; (with_reducible refine Calls.mono (unhide HST _ _ _ (unhide HIX_10) (unhide HX_10)) ?_); rintro e w8 ⟨rfl, hb8⟩; have HX_11 := hide (Below.next (unhide HX_10) hb8 (Nat.le_refl _)); have HIX_11 := hide ((unhide HIX_10).below hb8); have HIY_11 := hide ((unhide HIY_10).below hb8); have HC_11 := hide (keep_below (unhide HC_10) hb8); have HR_11 := hide ((unhide HR_10).below hb8); have HF_11 := hide (keep_below (unhide HF_10) hb8); have HP_11 := hide (keep_below (unhide HP_10) hb8); have HD_11 := hide (keep_below (unhide HD_10) hb8); clear HX_10 HIX_10 HIY_10 HC_10 HR_10 HF_10 HP_10 HD_10; clear hb8)
    | (go_at_call 17; (with_reducible refine Calls.mono (unhide HIN _ _ _ (unhide HIY_11) (unhide HX_11)) ?_); rintro e w9 ⟨rfl, hb9⟩; have HX_12 := hide (Below.next (unhide HX_11) hb9 (Nat.le_refl _)); have HIX_12 := hide ((unhide HIX_11).below hb9); have HIY_12 := hide ((unhide HIY_11).below hb9); have HC_12 := hide (keep_below (unhide HC_11) hb9); have HR_12 := hide ((unhide HR_11).below hb9); have HF_12 := hide (keep_below (unhide HF_11) hb9); have HP_12 := hide (keep_below (unhide HP_11) hb9); have HD_12 := hide (keep_below (unhide HD_11) hb9); clear HX_11 HIX_11 HIY_11 HC_11 HR_11 HF_11 HP_11 HD_11; clear hb9))
  clear g0 g1 gf0 gf1 gl p0 p1 pf0 pf1 pl q0 q1 qf0 qf1 ql HST HIN
  clear HC_12 HF_12 HIX_12 HIY_12
  obtain ⟨q0, q1, qf0, qf1, ql⟩ := block2 (unhide HD_12)
  go_upto_region 13 with fail
  clear q0 q1 qf0 qf1 ql
  have HBV := hide ((Below.refl w9.heap.size w9).alloc (Nat.le_refl _) (.cells #[.int .i64 0, .int .i64 0] 28))
  have HVQ := hide (new_block w9 (.cells #[.int .i64 0, .int .i64 0] 28))
  obtain ⟨V, eV⟩ : ∃ X, w9.heap.size = X := ⟨_, rfl⟩
  obtain ⟨WV, eW⟩ : ∃ X, w9.alloc (.cells #[.int .i64 0, .int .i64 0] 28) = X := ⟨_, rfl⟩
  rw [eV, eW] at HBV HVQ
  rw [eV, eW]
  have HVS := hide eV
  clear eV eW
  obtain ⟨g0, g1, gf0, gf1, gl⟩ := block2 (unhide HVQ)
  go_upto_region 15 with (go_at_call 18; (with_reducible refine Calls.mono (F_any _ _ _) ?_); rintro e w11 ⟨rfl, hb11⟩; have HB2 := hide (Below.next (unhide HBV) hb11 (Nat.le_of_eq (unhide HVS).symm)); have HV2 := hide (keep_below (unhide HVQ) hb11); obtain ⟨k0, k1, kf0, kf1, kl⟩ := block2 (unhide HV2); clear hb11)
  have HB3 := hide (((unhide HB2).setCell (p := ⟨V, 0, none⟩) (Nat.le_refl V) (.int .i64 3)).setCell (p := ⟨V, 1, none⟩) (Nat.le_refl V) (.int .i64 (-1)))
  have HV3 := hide (set2_block (x' := .int .i64 3) (y' := .int .i64 (-1)) (unhide HV2))
  obtain ⟨W12, eW⟩ : ∃ X, (w11.setCell ⟨V, 0, none⟩ (.int .i64 3)).setCell ⟨V, 1, none⟩ (.int .i64 (-1)) = X := ⟨_, rfl⟩
  rw [eW] at HB3 HV3
  rw [eW]
  clear eW g0 g1 gf0 gf1 gl k0 k1 kf0 kf1 kl HBV HVQ HB2 HV2
  have hb12 : Below w9.heap.size w9 W12 := by rw [unhide HVS]; exact unhide HB3
  (have HX_13 := hide (Below.next (unhide HX_12) hb12 (Nat.le_refl _)); have HR_13 := hide ((unhide HR_12).below hb12); have HP_13 := hide (keep_below (unhide HP_12) hb12); have HD_13 := hide (keep_below (unhide HD_12) hb12); clear HX_12 HR_12 HP_12 HD_12)
  clear hb12
  have HV_13 := HV3
  clear HV3
  obtain ⟨g0, g1, gf0, gf1, gl⟩ := block2 (unhide HV_13)
  obtain ⟨p0, p1, pf0, pf1, pl⟩ := block2 (unhide HP_13)
  obtain ⟨q0, q1, qf0, qf1, ql⟩ := block2 (unhide HD_13)
  go_upto_region 19 with fail
  clear g0 g1 gf0 gf1 gl p0 p1 pf0 pf1 pl q0 q1 qf0 qf1 ql
  exact oc_tail w a0 n0 c0 a1 n1 c1 l hs (unhide HL) (unhide HH) (unhide HG) h1 W12 (unhide HX_13) m (unhide HML) _ G (unhide HR_13) V 3 (-1) (unhide HV_13) false zi zk (Or.inl (by decide)) _ _ _ _ _ (by assumption) (by assumption) (by kernel_rfl)

set_option maxRecDepth 100000 in
set_option maxHeartbeats 4000000 in
theorem oc_out2_small (w : World) (a0 : Option Addr) (n0 c0 : Nat) (a1 : Option Addr) (n1 c1 : Nat) (l : List Ev) (hs : List Int) (hl : IsL KE w (.slice a0 n0 c0) l) (hh : IsL KI w (.slice a1 n1 c1) hs) (h1 : ¬ 300 < n0) (_h2 : ¬ 3000 < n0) (h3 : ¬ 100 < n1) (hg : GoodT hs l) (zi zk : Int) (hz : ¬ zi < 0) (hz2 : (n0 : Int) ≤ zi) :
    Calls Try.prog 3 #[.slice a0 n0 c0, .slice a1 n1 c1, .int .i64 zi, .int .i64 zk] w fun e w' => e = .returned (.bool true) ∧ Below w.heap.size w w' := by
  have hln := hl.len
  have hhn := hh.len
  have d1 : ¬ (300 : Int) < (n0 : Int) := by omega
  have g2 : ¬ (3000 : Int) < (n0 : Int) := by omega
  have g3 : ¬ (100 : Int) < (n1 : Int) := by omega
  have hf := hg.zero
  obtain ⟨m, hm⟩ : ∃ m : Nat, lastL l = (m : Int) := ⟨(lastL l).toNat, by have := (hg.last l.length (Nat.le_refl _)).1; rw [List.take_length] at this; omega⟩
  have HG := hide hg; have HML := hide hm
  have HOT : Hid (∀ W, Below w.heap.size w W → Calls Try.prog 10 #[.slice a0 n0 c0] W fun e w' => ∃ a' c', e = .returned (.slice a' n0 c') ∧ IsL KE w' (.slice a' n0 c') l ∧ Below W.heap.size W w') := fun W hW => by
    have h_ := ownTrace_any W _ l (hl.below hW) (by rw [hln]; omega)
    rw [hln] at h_
    exact h_.mono fun _ _ ⟨a', c', q1, q2, q3⟩ => ⟨a', c', q1, q2.isl, q3⟩
  have HOI : Hid (∀ W, Below w.heap.size w W → Calls Try.prog 11 #[.slice a1 n1 c1] W fun e w' => ∃ a' c', e = .returned (.slice a' n1 c') ∧ IsL KI w' (.slice a' n1 c') hs ∧ Below W.heap.size W w') := fun W hW => by
    have h_ := own_any W _ hs (hh.below hW) (by rw [hhn]; omega)
    rw [hhn] at h_
    exact h_.mono fun _ _ ⟨a', c', q1, q2, q3⟩ => ⟨a', c', q1, q2.isl, q3⟩
  have HCK : Hid (∀ W a c a' c', IsL KE W (.slice a n0 c) l → IsL KI W (.slice a' n1 c') hs → Calls Try.prog 12 #[.slice a n0 c, .slice a' n1 c'] W fun e w' => e = .returned (.agg #[.int .i64 0, .int .i64 0]) ∧ Below W.heap.size W w') := fun W a c a' c' q1 q2 => by
    have h_ := check_any W a n0 c a' n1 c' l hs q1 q2
    rwa [hf] at h_
  have HTF : Hid (∀ W, Below w.heap.size w W → Calls Try.prog 15 #[.slice a0 n0 c0, .slice a1 n1 c1] W fun e w' => e = .returned (.agg #[.int .i64 0, .int .i64 0]) ∧ Below W.heap.size W w') := fun W hW => by
    have h_ := tf_any W a0 n0 c0 a1 n1 c1 l hs (hl.below hW) (hh.below hW)
    rwa [hf] at h_
  have HCL : Hid (∀ W a c a' c', IsL KE W (.slice a n0 c) l → IsL KI W (.slice a' n1 c') hs → Calls Try.prog 13 #[.slice a n0 c, .slice a' n1 c'] W fun e w' => ∃ G, e = .returned (.tuple #[.slice (some ⟨G, 0, none⟩) n0 n0, .agg #[.int .i64 0, .int .i64 0]]) ∧ Rows2 (W.heap.size + 1) w' G n0 (rowL hs l m) m n0 ∧ W.heap.size + 1 ≤ G ∧ Below W.heap.size W w') := fun W a c a' c' q1 q2 => clocks_good W a n0 c a' n1 c' l hs q1 q2 hg m hm
  have HBE : Hid (∀ W a c a' c', IsL KE W (.slice a n0 c) l → IsL KI W (.slice a' n1 c') hs → Calls Try.prog 14 #[.slice a n0 c, .slice a' n1 c', .int .i64 zi, .int .i64 zk] W fun e w' => e = .returned (.tuple #[.bool false, .agg #[.int .i64 3, .int .i64 (-1)]]) ∧ Below W.heap.size W w') := fun W a c a' c' q1 q2 => before_out1 W a n0 c a' n1 c' l hs q1 q2 hg zi zk (by omega)
  have HST : Hid (∀ W a c, IsL KE W (.slice a n0 c) l → Below w.heap.size w W → Calls Try.prog 16 #[.slice a n0 c, .slice a0 n0 c0] W fun e w' => e = .returned (.bool true) ∧ Below W.heap.size W w') := fun W a c q1 hW => trace_same W _ _ l q1 (hl.below hW) (by rw [hln]; omega)
  have HIN : Hid (∀ W a c, IsL KI W (.slice a n1 c) hs → Below w.heap.size w W → Calls Try.prog 17 #[.slice a n1 c, .slice a1 n1 c1] W fun e w' => e = .returned (.bool true) ∧ Below W.heap.size W w') := fun W a c q1 hW => ints_same W _ _ hs q1 (hh.below hW) (by rw [hhn]; unfold maxLen; omega)
  have HL := hide hl; have HH := hide hh
  clear hl hh hln hhn hf
  go_enter Try.func3, Try.ntmps3
  go_upto_region 5 with (go_at_call 9; (with_reducible refine Calls.mono (begun_any _) ?_); rintro e w1 ⟨rfl, hb1⟩; have HX_0 := hide hb1; clear hb1)
  go_upto_region 6 with (first
    | (go_at_call 10; (with_reducible refine Calls.mono (unhide HOT _ (unhide HX_0)) ?_); rintro e w2 ⟨a2, c2, rfl, hi2, hb2⟩; have HX_1 := hide (Below.next (unhide HX_0) hb2 (Nat.le_refl _)); clear HX_0; have HIX_1 := hide hi2; clear hi2 hb2)
    | (go_at_call 11; (with_reducible refine Calls.mono (unhide HOI _ (unhide HX_1)) ?_); rintro e w3 ⟨a3, c3, rfl, hi3, hb3⟩; have HX_2 := hide (Below.next (unhide HX_1) hb3 (Nat.le_refl _)); have HIX_2 := hide ((unhide HIX_1).below hb3); clear HX_1 HIX_1; have HIY_2 := hide hi3; clear hi3 hb3))
  clear HOT HOI
  go_upto_region 7 with (go_at_call 12; (with_reducible refine Calls.mono (unhide HCK _ _ _ _ _ (unhide HIX_2) (unhide HIY_2)) ?_); rintro e w4 ⟨rfl, hb4⟩; have HX_3 := hide (Below.next (unhide HX_2) hb4 (Nat.le_refl _)); have HIX_3 := hide ((unhide HIX_2).below hb4); have HIY_3 := hide ((unhide HIY_2).below hb4); clear HX_2 HIX_2 HIY_2; clear hb4)
  have HX_4 := hide ((unhide HX_3).alloc (unhide HX_3).size (.cells #[.int .i64 0, .int .i64 0] 28))
  have HIX_4 := hide ((unhide HIX_3).below ((Below.refl _ _).alloc (Nat.le_refl _) (.cells #[.int .i64 0, .int .i64 0] 28)))
  have HIY_4 := hide ((unhide HIY_3).below ((Below.refl _ _).alloc (Nat.le_refl _) (.cells #[.int .i64 0, .int .i64 0] 28)))
  have HC_4 := hide (new_block w4 (.cells #[.int .i64 0, .int .i64 0] 28))
  obtain ⟨C, eC⟩ : ∃ X, w4.heap.size = X := ⟨_, rfl⟩
  obtain ⟨W4, eW4⟩ : ∃ X, w4.alloc (.cells #[.int .i64 0, .int .i64 0] 28) = X := ⟨_, rfl⟩
  rw [eW4] at HX_4
  rw [eW4] at HIX_4
  rw [eW4] at HIY_4
  rw [eC, eW4] at HC_4
  rw [eC, eW4]
  clear eC eW4 HX_3 HIX_3 HIY_3
  clear HCK
  go_upto_region 8 with (go_at_call 13; (with_reducible refine Calls.mono (unhide HCL _ _ _ _ _ (unhide HIX_4) (unhide HIY_4)) ?_); rintro e w5 ⟨G, rfl, hr5, _, hb5⟩; have HX_5 := hide (Below.next (unhide HX_4) hb5 (Nat.le_refl _)); have HIX_5 := hide ((unhide HIX_4).below hb5); have HIY_5 := hide ((unhide HIY_4).below hb5); have HC_5 := hide (keep_below (unhide HC_4) hb5); clear HX_4 HIX_4 HIY_4 HC_4; have HR_5 := hide hr5; clear hr5 hb5)
  have HX_6 := hide ((unhide HX_5).alloc (unhide HX_5).size (.cells #[.int .i64 0, .int .i64 0] 28))
  have HIX_6 := hide ((unhide HIX_5).below ((Below.refl _ _).alloc (Nat.le_refl _) (.cells #[.int .i64 0, .int .i64 0] 28)))
  have HIY_6 := hide ((unhide HIY_5).below ((Below.refl _ _).alloc (Nat.le_refl _) (.cells #[.int .i64 0, .int .i64 0] 28)))
  have HC_6 := hide (keep_alloc (unhide HC_5) (.cells #[.int .i64 0, .int .i64 0] 28))
  have HR_6 := hide ((unhide HR_5).below ((Below.refl _ _).alloc (Nat.le_refl _) (.cells #[.int .i64 0, .int .i64 0] 28)))
  have HF_6 := hide (new_block w5 (.cells #[.int .i64 0, .int .i64 0] 28))
  obtain ⟨F1, eF1⟩ : ∃ X, w5.heap.size = X := ⟨_, rfl⟩
  obtain ⟨W6, eW6⟩ : ∃ X, w5.alloc (.cells #[.int .i64 0, .int .i64 0] 28) = X := ⟨_, rfl⟩
  rw [eW6] at HX_6
  rw [eW6] at HIX_6
  rw [eW6] at HIY_6
  rw [eW6] at HC_6
  rw [eW6] at HR_6
  rw [eF1, eW6] at HF_6
  rw [eF1, eW6]
  clear eF1 eW6 HX_5 HIX_5 HIY_5 HC_5 HR_5
  clear HCL
  go_upto_region 9 with (go_at_call 14; (with_reducible refine Calls.mono (unhide HBE _ _ _ _ _ (unhide HIX_6) (unhide HIY_6)) ?_); rintro e w6 ⟨rfl, hb6⟩; have HX_7 := hide (Below.next (unhide HX_6) hb6 (Nat.le_refl _)); have HIX_7 := hide ((unhide HIX_6).below hb6); have HIY_7 := hide ((unhide HIY_6).below hb6); have HC_7 := hide (keep_below (unhide HC_6) hb6); have HR_7 := hide ((unhide HR_6).below hb6); have HF_7 := hide (keep_below (unhide HF_6) hb6); clear HX_6 HIX_6 HIY_6 HC_6 HR_6 HF_6; clear hb6)
  have HX_8 := hide ((unhide HX_7).alloc (unhide HX_7).size (.cells #[.int .i64 3, .int .i64 (-1)] 28))
  have HIX_8 := hide ((unhide HIX_7).below ((Below.refl _ _).alloc (Nat.le_refl _) (.cells #[.int .i64 3, .int .i64 (-1)] 28)))
  have HIY_8 := hide ((unhide HIY_7).below ((Below.refl _ _).alloc (Nat.le_refl _) (.cells #[.int .i64 3, .int .i64 (-1)] 28)))
  have HC_8 := hide (keep_alloc (unhide HC_7) (.cells #[.int .i64 3, .int .i64 (-1)] 28))
  have HR_8 := hide ((unhide HR_7).below ((Below.refl _ _).alloc (Nat.le_refl _) (.cells #[.int .i64 3, .int .i64 (-1)] 28)))
  have HF_8 := hide (keep_alloc (unhide HF_7) (.cells #[.int .i64 3, .int .i64 (-1)] 28))
  have HP_8 := hide (new_block w6 (.cells #[.int .i64 3, .int .i64 (-1)] 28))
  obtain ⟨F2, eF2⟩ : ∃ X, w6.heap.size = X := ⟨_, rfl⟩
  obtain ⟨W8, eW8⟩ : ∃ X, w6.alloc (.cells #[.int .i64 3, .int .i64 (-1)] 28) = X := ⟨_, rfl⟩
  rw [eW8] at HX_8
  rw [eW8] at HIX_8
  rw [eW8] at HIY_8
  rw [eW8] at HC_8
  rw [eW8] at HR_8
  rw [eW8] at HF_8
  rw [eF2, eW8] at HP_8
  rw [eF2, eW8]
  clear eF2 eW8 HX_7 HIX_7 HIY_7 HC_7 HR_7 HF_7
  clear HBE
  go_upto_region 10 with (go_at_call 15; (with_reducible refine Calls.mono (unhide HTF _ (unhide HX_8)) ?_); rintro e w7 ⟨rfl, hb7⟩; have HX_9 := hide (Below.next (unhide HX_8) hb7 (Nat.le_refl _)); have HIX_9 := hide ((unhide HIX_8).below hb7); have HIY_9 := hide ((unhide HIY_8).below hb7); have HC_9 := hide (keep_below (unhide HC_8) hb7); have HR_9 := hide ((unhide HR_8).below hb7); have HF_9 := hide (keep_below (unhide HF_8) hb7); have HP_9 := hide (keep_below (unhide HP_8) hb7); clear HX_8 HIX_8 HIY_8 HC_8 HR_8 HF_8 HP_8; clear hb7)
  have HX_10 := hide ((unhide HX_9).alloc (unhide HX_9).size (.cells #[.int .i64 0, .int .i64 0] 28))
  have HIX_10 := hide ((unhide HIX_9).below ((Below.refl _ _).alloc (Nat.le_refl _) (.cells #[.int .i64 0, .int .i64 0] 28)))
  have HIY_10 := hide ((unhide HIY_9).below ((Below.refl _ _).alloc (Nat.le_refl _) (.cells #[.int .i64 0, .int .i64 0] 28)))
  have HC_10 := hide (keep_alloc (unhide HC_9) (.cells #[.int .i64 0, .int .i64 0] 28))
  have HR_10 := hide ((unhide HR_9).below ((Below.refl _ _).alloc (Nat.le_refl _) (.cells #[.int .i64 0, .int .i64 0] 28)))
  have HF_10 := hide (keep_alloc (unhide HF_9) (.cells #[.int .i64 0, .int .i64 0] 28))
  have HP_10 := hide (keep_alloc (unhide HP_9) (.cells #[.int .i64 0, .int .i64 0] 28))
  have HD_10 := hide (new_block w7 (.cells #[.int .i64 0, .int .i64 0] 28))
  obtain ⟨D, eD⟩ : ∃ X, w7.heap.size = X := ⟨_, rfl⟩
  obtain ⟨W10, eW10⟩ : ∃ X, w7.alloc (.cells #[.int .i64 0, .int .i64 0] 28) = X := ⟨_, rfl⟩
  rw [eW10] at HX_10
  rw [eW10] at HIX_10
  rw [eW10] at HIY_10
  rw [eW10] at HC_10
  rw [eW10] at HR_10
  rw [eW10] at HF_10
  rw [eW10] at HP_10
  rw [eD, eW10] at HD_10
  rw [eD, eW10]
  clear eD eW10 HX_9 HIX_9 HIY_9 HC_9 HR_9 HF_9 HP_9
  clear HTF
  obtain ⟨g0, g1, gf0, gf1, gl⟩ := block2 (unhide HC_10)
  obtain ⟨p0, p1, pf0, pf1, pl⟩ := block2 (unhide HF_10)
  obtain ⟨q0, q1, qf0, qf1, ql⟩ := block2 (unhide HD_10)
  go_upto_region 12 with (first
    | (go_at_call 16; (with_reducible refine Calls.mono (unhide HST _ _ _ (unhide HIX_10) (unhide HX_10)) ?_); rintro e w8 ⟨rfl, hb8⟩; have HX_11 := hide (Below.next (unhide HX_10) hb8 (Nat.le_refl _)); have HIX_11 := hide ((unhide HIX_10).below hb8); have HIY_11 := hide ((unhide HIY_10).below hb8); have HC_11 := hide (keep_below (unhide HC_10) hb8); have HR_11 := hide ((unhide HR_10).below hb8); have HF_11 := hide (keep_below (unhide HF_10) hb8); have HP_11 := hide (keep_below (unhide HP_10) hb8); have HD_11 := hide (keep_below (unhide HD_10) hb8); clear HX_10 HIX_10 HIY_10 HC_10 HR_10 HF_10 HP_10 HD_10; clear hb8)
    | (go_at_call 17; (with_reducible refine Calls.mono (unhide HIN _ _ _ (unhide HIY_11) (unhide HX_11)) ?_); rintro e w9 ⟨rfl, hb9⟩; have HX_12 := hide (Below.next (unhide HX_11) hb9 (Nat.le_refl _)); have HIX_12 := hide ((unhide HIX_11).below hb9); have HIY_12 := hide ((unhide HIY_11).below hb9); have HC_12 := hide (keep_below (unhide HC_11) hb9); have HR_12 := hide ((unhide HR_11).below hb9); have HF_12 := hide (keep_below (unhide HF_11) hb9); have HP_12 := hide (keep_below (unhide HP_11) hb9); have HD_12 := hide (keep_below (unhide HD_11) hb9); clear HX_11 HIX_11 HIY_11 HC_11 HR_11 HF_11 HP_11 HD_11; clear hb9))
  clear g0 g1 gf0 gf1 gl p0 p1 pf0 pf1 pl q0 q1 qf0 qf1 ql HST HIN
  clear HC_12 HF_12 HIX_12 HIY_12
  obtain ⟨q0, q1, qf0, qf1, ql⟩ := block2 (unhide HD_12)
  go_upto_region 13 with fail
  clear q0 q1 qf0 qf1 ql
  have HBV := hide ((Below.refl w9.heap.size w9).alloc (Nat.le_refl _) (.cells #[.int .i64 0, .int .i64 0] 28))
  have HVQ := hide (new_block w9 (.cells #[.int .i64 0, .int .i64 0] 28))
  obtain ⟨V, eV⟩ : ∃ X, w9.heap.size = X := ⟨_, rfl⟩
  obtain ⟨WV, eW⟩ : ∃ X, w9.alloc (.cells #[.int .i64 0, .int .i64 0] 28) = X := ⟨_, rfl⟩
  rw [eV, eW] at HBV HVQ
  rw [eV, eW]
  have HVS := hide eV
  clear eV eW
  obtain ⟨g0, g1, gf0, gf1, gl⟩ := block2 (unhide HVQ)
  go_upto_region 15 with (go_at_call 18; (with_reducible refine Calls.mono (F_any _ _ _) ?_); rintro e w11 ⟨rfl, hb11⟩; have HB2 := hide (Below.next (unhide HBV) hb11 (Nat.le_of_eq (unhide HVS).symm)); have HV2 := hide (keep_below (unhide HVQ) hb11); obtain ⟨k0, k1, kf0, kf1, kl⟩ := block2 (unhide HV2); clear hb11)
  have HB3 := hide (((unhide HB2).setCell (p := ⟨V, 0, none⟩) (Nat.le_refl V) (.int .i64 3)).setCell (p := ⟨V, 1, none⟩) (Nat.le_refl V) (.int .i64 (-1)))
  have HV3 := hide (set2_block (x' := .int .i64 3) (y' := .int .i64 (-1)) (unhide HV2))
  obtain ⟨W12, eW⟩ : ∃ X, (w11.setCell ⟨V, 0, none⟩ (.int .i64 3)).setCell ⟨V, 1, none⟩ (.int .i64 (-1)) = X := ⟨_, rfl⟩
  rw [eW] at HB3 HV3
  rw [eW]
  clear eW g0 g1 gf0 gf1 gl k0 k1 kf0 kf1 kl HBV HVQ HB2 HV2
  have hb12 : Below w9.heap.size w9 W12 := by rw [unhide HVS]; exact unhide HB3
  (have HX_13 := hide (Below.next (unhide HX_12) hb12 (Nat.le_refl _)); have HR_13 := hide ((unhide HR_12).below hb12); have HP_13 := hide (keep_below (unhide HP_12) hb12); have HD_13 := hide (keep_below (unhide HD_12) hb12); clear HX_12 HR_12 HP_12 HD_12)
  clear hb12
  have HV_13 := HV3
  clear HV3
  obtain ⟨g0, g1, gf0, gf1, gl⟩ := block2 (unhide HV_13)
  obtain ⟨p0, p1, pf0, pf1, pl⟩ := block2 (unhide HP_13)
  obtain ⟨q0, q1, qf0, qf1, ql⟩ := block2 (unhide HD_13)
  go_upto_region 19 with fail
  clear g0 g1 gf0 gf1 gl p0 p1 pf0 pf1 pl q0 q1 qf0 qf1 ql
  exact oc_tail w a0 n0 c0 a1 n1 c1 l hs (unhide HL) (unhide HH) (unhide HG) h1 W12 (unhide HX_13) m (unhide HML) _ G (unhide HR_13) V 3 (-1) (unhide HV_13) false zi zk (Or.inl (by decide)) _ _ _ _ _ (by assumption) (by assumption) (by kernel_rfl)

set_option maxRecDepth 100000 in
set_option maxHeartbeats 4000000 in
theorem oc_out3_small (w : World) (a0 : Option Addr) (n0 c0 : Nat) (a1 : Option Addr) (n1 c1 : Nat) (l : List Ev) (hs : List Int) (hl : IsL KE w (.slice a0 n0 c0) l) (hh : IsL KI w (.slice a1 n1 c1) hs) (h1 : ¬ 300 < n0) (_h2 : ¬ 3000 < n0) (h3 : ¬ 100 < n1) (hg : GoodT hs l) (zi zk : Int) (hz : ¬ zi < 0) (hz2 : ¬ (n0 : Int) ≤ zi) (hz3 : zk < 0) :
    Calls Try.prog 3 #[.slice a0 n0 c0, .slice a1 n1 c1, .int .i64 zi, .int .i64 zk] w fun e w' => e = .returned (.bool true) ∧ Below w.heap.size w w' := by
  have hln := hl.len
  have hhn := hh.len
  have d1 : ¬ (300 : Int) < (n0 : Int) := by omega
  have g2 : ¬ (3000 : Int) < (n0 : Int) := by omega
  have g3 : ¬ (100 : Int) < (n1 : Int) := by omega
  have hf := hg.zero
  obtain ⟨m, hm⟩ : ∃ m : Nat, lastL l = (m : Int) := ⟨(lastL l).toNat, by have := (hg.last l.length (Nat.le_refl _)).1; rw [List.take_length] at this; omega⟩
  have HG := hide hg; have HML := hide hm
  have HOT : Hid (∀ W, Below w.heap.size w W → Calls Try.prog 10 #[.slice a0 n0 c0] W fun e w' => ∃ a' c', e = .returned (.slice a' n0 c') ∧ IsL KE w' (.slice a' n0 c') l ∧ Below W.heap.size W w') := fun W hW => by
    have h_ := ownTrace_any W _ l (hl.below hW) (by rw [hln]; omega)
    rw [hln] at h_
    exact h_.mono fun _ _ ⟨a', c', q1, q2, q3⟩ => ⟨a', c', q1, q2.isl, q3⟩
  have HOI : Hid (∀ W, Below w.heap.size w W → Calls Try.prog 11 #[.slice a1 n1 c1] W fun e w' => ∃ a' c', e = .returned (.slice a' n1 c') ∧ IsL KI w' (.slice a' n1 c') hs ∧ Below W.heap.size W w') := fun W hW => by
    have h_ := own_any W _ hs (hh.below hW) (by rw [hhn]; omega)
    rw [hhn] at h_
    exact h_.mono fun _ _ ⟨a', c', q1, q2, q3⟩ => ⟨a', c', q1, q2.isl, q3⟩
  have HCK : Hid (∀ W a c a' c', IsL KE W (.slice a n0 c) l → IsL KI W (.slice a' n1 c') hs → Calls Try.prog 12 #[.slice a n0 c, .slice a' n1 c'] W fun e w' => e = .returned (.agg #[.int .i64 0, .int .i64 0]) ∧ Below W.heap.size W w') := fun W a c a' c' q1 q2 => by
    have h_ := check_any W a n0 c a' n1 c' l hs q1 q2
    rwa [hf] at h_
  have HTF : Hid (∀ W, Below w.heap.size w W → Calls Try.prog 15 #[.slice a0 n0 c0, .slice a1 n1 c1] W fun e w' => e = .returned (.agg #[.int .i64 0, .int .i64 0]) ∧ Below W.heap.size W w') := fun W hW => by
    have h_ := tf_any W a0 n0 c0 a1 n1 c1 l hs (hl.below hW) (hh.below hW)
    rwa [hf] at h_
  have HCL : Hid (∀ W a c a' c', IsL KE W (.slice a n0 c) l → IsL KI W (.slice a' n1 c') hs → Calls Try.prog 13 #[.slice a n0 c, .slice a' n1 c'] W fun e w' => ∃ G, e = .returned (.tuple #[.slice (some ⟨G, 0, none⟩) n0 n0, .agg #[.int .i64 0, .int .i64 0]]) ∧ Rows2 (W.heap.size + 1) w' G n0 (rowL hs l m) m n0 ∧ W.heap.size + 1 ≤ G ∧ Below W.heap.size W w') := fun W a c a' c' q1 q2 => clocks_good W a n0 c a' n1 c' l hs q1 q2 hg m hm
  have HBE : Hid (∀ W a c a' c', IsL KE W (.slice a n0 c) l → IsL KI W (.slice a' n1 c') hs → Calls Try.prog 14 #[.slice a n0 c, .slice a' n1 c', .int .i64 zi, .int .i64 zk] W fun e w' => e = .returned (.tuple #[.bool false, .agg #[.int .i64 3, .int .i64 (-1)]]) ∧ Below W.heap.size W w') := fun W a c a' c' q1 q2 => before_out2 W a n0 c a' n1 c' l hs q1 q2 hg zi zk (by omega) (by omega)
  have HST : Hid (∀ W a c, IsL KE W (.slice a n0 c) l → Below w.heap.size w W → Calls Try.prog 16 #[.slice a n0 c, .slice a0 n0 c0] W fun e w' => e = .returned (.bool true) ∧ Below W.heap.size W w') := fun W a c q1 hW => trace_same W _ _ l q1 (hl.below hW) (by rw [hln]; omega)
  have HIN : Hid (∀ W a c, IsL KI W (.slice a n1 c) hs → Below w.heap.size w W → Calls Try.prog 17 #[.slice a n1 c, .slice a1 n1 c1] W fun e w' => e = .returned (.bool true) ∧ Below W.heap.size W w') := fun W a c q1 hW => ints_same W _ _ hs q1 (hh.below hW) (by rw [hhn]; unfold maxLen; omega)
  have HL := hide hl; have HH := hide hh
  clear hl hh hln hhn hf
  go_enter Try.func3, Try.ntmps3
  go_upto_region 5 with (go_at_call 9; (with_reducible refine Calls.mono (begun_any _) ?_); rintro e w1 ⟨rfl, hb1⟩; have HX_0 := hide hb1; clear hb1)
  go_upto_region 6 with (first
    | (go_at_call 10; (with_reducible refine Calls.mono (unhide HOT _ (unhide HX_0)) ?_); rintro e w2 ⟨a2, c2, rfl, hi2, hb2⟩; have HX_1 := hide (Below.next (unhide HX_0) hb2 (Nat.le_refl _)); clear HX_0; have HIX_1 := hide hi2; clear hi2 hb2)
    | (go_at_call 11; (with_reducible refine Calls.mono (unhide HOI _ (unhide HX_1)) ?_); rintro e w3 ⟨a3, c3, rfl, hi3, hb3⟩; have HX_2 := hide (Below.next (unhide HX_1) hb3 (Nat.le_refl _)); have HIX_2 := hide ((unhide HIX_1).below hb3); clear HX_1 HIX_1; have HIY_2 := hide hi3; clear hi3 hb3))
  clear HOT HOI
  go_upto_region 7 with (go_at_call 12; (with_reducible refine Calls.mono (unhide HCK _ _ _ _ _ (unhide HIX_2) (unhide HIY_2)) ?_); rintro e w4 ⟨rfl, hb4⟩; have HX_3 := hide (Below.next (unhide HX_2) hb4 (Nat.le_refl _)); have HIX_3 := hide ((unhide HIX_2).below hb4); have HIY_3 := hide ((unhide HIY_2).below hb4); clear HX_2 HIX_2 HIY_2; clear hb4)
  have HX_4 := hide ((unhide HX_3).alloc (unhide HX_3).size (.cells #[.int .i64 0, .int .i64 0] 28))
  have HIX_4 := hide ((unhide HIX_3).below ((Below.refl _ _).alloc (Nat.le_refl _) (.cells #[.int .i64 0, .int .i64 0] 28)))
  have HIY_4 := hide ((unhide HIY_3).below ((Below.refl _ _).alloc (Nat.le_refl _) (.cells #[.int .i64 0, .int .i64 0] 28)))
  have HC_4 := hide (new_block w4 (.cells #[.int .i64 0, .int .i64 0] 28))
  obtain ⟨C, eC⟩ : ∃ X, w4.heap.size = X := ⟨_, rfl⟩
  obtain ⟨W4, eW4⟩ : ∃ X, w4.alloc (.cells #[.int .i64 0, .int .i64 0] 28) = X := ⟨_, rfl⟩
  rw [eW4] at HX_4
  rw [eW4] at HIX_4
  rw [eW4] at HIY_4
  rw [eC, eW4] at HC_4
  rw [eC, eW4]
  clear eC eW4 HX_3 HIX_3 HIY_3
  clear HCK
  go_upto_region 8 with (go_at_call 13; (with_reducible refine Calls.mono (unhide HCL _ _ _ _ _ (unhide HIX_4) (unhide HIY_4)) ?_); rintro e w5 ⟨G, rfl, hr5, _, hb5⟩; have HX_5 := hide (Below.next (unhide HX_4) hb5 (Nat.le_refl _)); have HIX_5 := hide ((unhide HIX_4).below hb5); have HIY_5 := hide ((unhide HIY_4).below hb5); have HC_5 := hide (keep_below (unhide HC_4) hb5); clear HX_4 HIX_4 HIY_4 HC_4; have HR_5 := hide hr5; clear hr5 hb5)
  have HX_6 := hide ((unhide HX_5).alloc (unhide HX_5).size (.cells #[.int .i64 0, .int .i64 0] 28))
  have HIX_6 := hide ((unhide HIX_5).below ((Below.refl _ _).alloc (Nat.le_refl _) (.cells #[.int .i64 0, .int .i64 0] 28)))
  have HIY_6 := hide ((unhide HIY_5).below ((Below.refl _ _).alloc (Nat.le_refl _) (.cells #[.int .i64 0, .int .i64 0] 28)))
  have HC_6 := hide (keep_alloc (unhide HC_5) (.cells #[.int .i64 0, .int .i64 0] 28))
  have HR_6 := hide ((unhide HR_5).below ((Below.refl _ _).alloc (Nat.le_refl _) (.cells #[.int .i64 0, .int .i64 0] 28)))
  have HF_6 := hide (new_block w5 (.cells #[.int .i64 0, .int .i64 0] 28))
  obtain ⟨F1, eF1⟩ : ∃ X, w5.heap.size = X := ⟨_, rfl⟩
  obtain ⟨W6, eW6⟩ : ∃ X, w5.alloc (.cells #[.int .i64 0, .int .i64 0] 28) = X := ⟨_, rfl⟩
  rw [eW6] at HX_6
  rw [eW6] at HIX_6
  rw [eW6] at HIY_6
  rw [eW6] at HC_6
  rw [eW6] at HR_6
  rw [eF1, eW6] at HF_6
  rw [eF1, eW6]
  clear eF1 eW6 HX_5 HIX_5 HIY_5 HC_5 HR_5
  clear HCL
  go_upto_region 9 with (go_at_call 14; (with_reducible refine Calls.mono (unhide HBE _ _ _ _ _ (unhide HIX_6) (unhide HIY_6)) ?_); rintro e w6 ⟨rfl, hb6⟩; have HX_7 := hide (Below.next (unhide HX_6) hb6 (Nat.le_refl _)); have HIX_7 := hide ((unhide HIX_6).below hb6); have HIY_7 := hide ((unhide HIY_6).below hb6); have HC_7 := hide (keep_below (unhide HC_6) hb6); have HR_7 := hide ((unhide HR_6).below hb6); have HF_7 := hide (keep_below (unhide HF_6) hb6); clear HX_6 HIX_6 HIY_6 HC_6 HR_6 HF_6; clear hb6)
  have HX_8 := hide ((unhide HX_7).alloc (unhide HX_7).size (.cells #[.int .i64 3, .int .i64 (-1)] 28))
  have HIX_8 := hide ((unhide HIX_7).below ((Below.refl _ _).alloc (Nat.le_refl _) (.cells #[.int .i64 3, .int .i64 (-1)] 28)))
  have HIY_8 := hide ((unhide HIY_7).below ((Below.refl _ _).alloc (Nat.le_refl _) (.cells #[.int .i64 3, .int .i64 (-1)] 28)))
  have HC_8 := hide (keep_alloc (unhide HC_7) (.cells #[.int .i64 3, .int .i64 (-1)] 28))
  have HR_8 := hide ((unhide HR_7).below ((Below.refl _ _).alloc (Nat.le_refl _) (.cells #[.int .i64 3, .int .i64 (-1)] 28)))
  have HF_8 := hide (keep_alloc (unhide HF_7) (.cells #[.int .i64 3, .int .i64 (-1)] 28))
  have HP_8 := hide (new_block w6 (.cells #[.int .i64 3, .int .i64 (-1)] 28))
  obtain ⟨F2, eF2⟩ : ∃ X, w6.heap.size = X := ⟨_, rfl⟩
  obtain ⟨W8, eW8⟩ : ∃ X, w6.alloc (.cells #[.int .i64 3, .int .i64 (-1)] 28) = X := ⟨_, rfl⟩
  rw [eW8] at HX_8
  rw [eW8] at HIX_8
  rw [eW8] at HIY_8
  rw [eW8] at HC_8
  rw [eW8] at HR_8
  rw [eW8] at HF_8
  rw [eF2, eW8] at HP_8
  rw [eF2, eW8]
  clear eF2 eW8 HX_7 HIX_7 HIY_7 HC_7 HR_7 HF_7
  clear HBE
  go_upto_region 10 with (go_at_call 15; (with_reducible refine Calls.mono (unhide HTF _ (unhide HX_8)) ?_); rintro e w7 ⟨rfl, hb7⟩; have HX_9 := hide (Below.next (unhide HX_8) hb7 (Nat.le_refl _)); have HIX_9 := hide ((unhide HIX_8).below hb7); have HIY_9 := hide ((unhide HIY_8).below hb7); have HC_9 := hide (keep_below (unhide HC_8) hb7); have HR_9 := hide ((unhide HR_8).below hb7); have HF_9 := hide (keep_below (unhide HF_8) hb7); have HP_9 := hide (keep_below (unhide HP_8) hb7); clear HX_8 HIX_8 HIY_8 HC_8 HR_8 HF_8 HP_8; clear hb7)
  have HX_10 := hide ((unhide HX_9).alloc (unhide HX_9).size (.cells #[.int .i64 0, .int .i64 0] 28))
  have HIX_10 := hide ((unhide HIX_9).below ((Below.refl _ _).alloc (Nat.le_refl _) (.cells #[.int .i64 0, .int .i64 0] 28)))
  have HIY_10 := hide ((unhide HIY_9).below ((Below.refl _ _).alloc (Nat.le_refl _) (.cells #[.int .i64 0, .int .i64 0] 28)))
  have HC_10 := hide (keep_alloc (unhide HC_9) (.cells #[.int .i64 0, .int .i64 0] 28))
  have HR_10 := hide ((unhide HR_9).below ((Below.refl _ _).alloc (Nat.le_refl _) (.cells #[.int .i64 0, .int .i64 0] 28)))
  have HF_10 := hide (keep_alloc (unhide HF_9) (.cells #[.int .i64 0, .int .i64 0] 28))
  have HP_10 := hide (keep_alloc (unhide HP_9) (.cells #[.int .i64 0, .int .i64 0] 28))
  have HD_10 := hide (new_block w7 (.cells #[.int .i64 0, .int .i64 0] 28))
  obtain ⟨D, eD⟩ : ∃ X, w7.heap.size = X := ⟨_, rfl⟩
  obtain ⟨W10, eW10⟩ : ∃ X, w7.alloc (.cells #[.int .i64 0, .int .i64 0] 28) = X := ⟨_, rfl⟩
  rw [eW10] at HX_10
  rw [eW10] at HIX_10
  rw [eW10] at HIY_10
  rw [eW10] at HC_10
  rw [eW10] at HR_10
  rw [eW10] at HF_10
  rw [eW10] at HP_10
  rw [eD, eW10] at HD_10
  rw [eD, eW10]
  clear eD eW10 HX_9 HIX_9 HIY_9 HC_9 HR_9 HF_9 HP_9
  clear HTF
  obtain ⟨g0, g1, gf0, gf1, gl⟩ := block2 (unhide HC_10)
  obtain ⟨p0, p1, pf0, pf1, pl⟩ := block2 (unhide HF_10)
  obtain ⟨q0, q1, qf0, qf1, ql⟩ := block2 (unhide HD_10)
  go_upto_region 12 with (first
    | (go_at_call 16; (with_reducible refine Calls.mono (unhide HST _ _ _ (unhide HIX_10) (unhide HX_10)) ?_); rintro e w8 ⟨rfl, hb8⟩; have HX_11 := hide (Below.next (unhide HX_10) hb8 (Nat.le_refl _)); have HIX_11 := hide ((unhide HIX_10).below hb8); have HIY_11 := hide ((unhide HIY_10).below hb8); have HC_11 := hide (keep_below (unhide HC_10) hb8); have HR_11 := hide ((unhide HR_10).below hb8); have HF_11 := hide (keep_below (unhide HF_10) hb8); have HP_11 := hide (keep_below (unhide HP_10) hb8); have HD_11 := hide (keep_below (unhide HD_10) hb8); clear HX_10 HIX_10 HIY_10 HC_10 HR_10 HF_10 HP_10 HD_10; clear hb8)
    | (go_at_call 17; (with_reducible refine Calls.mono (unhide HIN _ _ _ (unhide HIY_11) (unhide HX_11)) ?_); rintro e w9 ⟨rfl, hb9⟩; have HX_12 := hide (Below.next (unhide HX_11) hb9 (Nat.le_refl _)); have HIX_12 := hide ((unhide HIX_11).below hb9); have HIY_12 := hide ((unhide HIY_11).below hb9); have HC_12 := hide (keep_below (unhide HC_11) hb9); have HR_12 := hide ((unhide HR_11).below hb9); have HF_12 := hide (keep_below (unhide HF_11) hb9); have HP_12 := hide (keep_below (unhide HP_11) hb9); have HD_12 := hide (keep_below (unhide HD_11) hb9); clear HX_11 HIX_11 HIY_11 HC_11 HR_11 HF_11 HP_11 HD_11; clear hb9))
  clear g0 g1 gf0 gf1 gl p0 p1 pf0 pf1 pl q0 q1 qf0 qf1 ql HST HIN
  clear HC_12 HF_12 HIX_12 HIY_12
  obtain ⟨q0, q1, qf0, qf1, ql⟩ := block2 (unhide HD_12)
  go_upto_region 13 with fail
  clear q0 q1 qf0 qf1 ql
  have HBV := hide ((Below.refl w9.heap.size w9).alloc (Nat.le_refl _) (.cells #[.int .i64 0, .int .i64 0] 28))
  have HVQ := hide (new_block w9 (.cells #[.int .i64 0, .int .i64 0] 28))
  obtain ⟨V, eV⟩ : ∃ X, w9.heap.size = X := ⟨_, rfl⟩
  obtain ⟨WV, eW⟩ : ∃ X, w9.alloc (.cells #[.int .i64 0, .int .i64 0] 28) = X := ⟨_, rfl⟩
  rw [eV, eW] at HBV HVQ
  rw [eV, eW]
  have HVS := hide eV
  clear eV eW
  obtain ⟨g0, g1, gf0, gf1, gl⟩ := block2 (unhide HVQ)
  go_upto_region 15 with (go_at_call 18; (with_reducible refine Calls.mono (F_any _ _ _) ?_); rintro e w11 ⟨rfl, hb11⟩; have HB2 := hide (Below.next (unhide HBV) hb11 (Nat.le_of_eq (unhide HVS).symm)); have HV2 := hide (keep_below (unhide HVQ) hb11); obtain ⟨k0, k1, kf0, kf1, kl⟩ := block2 (unhide HV2); clear hb11)
  have HB3 := hide (((unhide HB2).setCell (p := ⟨V, 0, none⟩) (Nat.le_refl V) (.int .i64 3)).setCell (p := ⟨V, 1, none⟩) (Nat.le_refl V) (.int .i64 (-1)))
  have HV3 := hide (set2_block (x' := .int .i64 3) (y' := .int .i64 (-1)) (unhide HV2))
  obtain ⟨W12, eW⟩ : ∃ X, (w11.setCell ⟨V, 0, none⟩ (.int .i64 3)).setCell ⟨V, 1, none⟩ (.int .i64 (-1)) = X := ⟨_, rfl⟩
  rw [eW] at HB3 HV3
  rw [eW]
  clear eW g0 g1 gf0 gf1 gl k0 k1 kf0 kf1 kl HBV HVQ HB2 HV2
  have hb12 : Below w9.heap.size w9 W12 := by rw [unhide HVS]; exact unhide HB3
  (have HX_13 := hide (Below.next (unhide HX_12) hb12 (Nat.le_refl _)); have HR_13 := hide ((unhide HR_12).below hb12); have HP_13 := hide (keep_below (unhide HP_12) hb12); have HD_13 := hide (keep_below (unhide HD_12) hb12); clear HX_12 HR_12 HP_12 HD_12)
  clear hb12
  have HV_13 := HV3
  clear HV3
  obtain ⟨g0, g1, gf0, gf1, gl⟩ := block2 (unhide HV_13)
  obtain ⟨p0, p1, pf0, pf1, pl⟩ := block2 (unhide HP_13)
  obtain ⟨q0, q1, qf0, qf1, ql⟩ := block2 (unhide HD_13)
  go_upto_region 19 with fail
  clear g0 g1 gf0 gf1 gl p0 p1 pf0 pf1 pl q0 q1 qf0 qf1 ql
  exact oc_tail w a0 n0 c0 a1 n1 c1 l hs (unhide HL) (unhide HH) (unhide HG) h1 W12 (unhide HX_13) m (unhide HML) _ G (unhide HR_13) V 3 (-1) (unhide HV_13) false zi zk (Or.inl (by decide)) _ _ _ _ _ (by assumption) (by assumption) (by kernel_rfl)

set_option maxRecDepth 100000 in
set_option maxHeartbeats 4000000 in
theorem oc_out4_small (w : World) (a0 : Option Addr) (n0 c0 : Nat) (a1 : Option Addr) (n1 c1 : Nat) (l : List Ev) (hs : List Int) (hl : IsL KE w (.slice a0 n0 c0) l) (hh : IsL KI w (.slice a1 n1 c1) hs) (h1 : ¬ 300 < n0) (_h2 : ¬ 3000 < n0) (h3 : ¬ 100 < n1) (hg : GoodT hs l) (zi zk : Int) (hz : ¬ zi < 0) (hz2 : ¬ (n0 : Int) ≤ zi) (hz3 : ¬ zk < 0) (hz4 : (n0 : Int) ≤ zk) :
    Calls Try.prog 3 #[.slice a0 n0 c0, .slice a1 n1 c1, .int .i64 zi, .int .i64 zk] w fun e w' => e = .returned (.bool true) ∧ Below w.heap.size w w' := by
  have hln := hl.len
  have hhn := hh.len
  have d1 : ¬ (300 : Int) < (n0 : Int) := by omega
  have g2 : ¬ (3000 : Int) < (n0 : Int) := by omega
  have g3 : ¬ (100 : Int) < (n1 : Int) := by omega
  have hf := hg.zero
  obtain ⟨m, hm⟩ : ∃ m : Nat, lastL l = (m : Int) := ⟨(lastL l).toNat, by have := (hg.last l.length (Nat.le_refl _)).1; rw [List.take_length] at this; omega⟩
  have HG := hide hg; have HML := hide hm
  have HOT : Hid (∀ W, Below w.heap.size w W → Calls Try.prog 10 #[.slice a0 n0 c0] W fun e w' => ∃ a' c', e = .returned (.slice a' n0 c') ∧ IsL KE w' (.slice a' n0 c') l ∧ Below W.heap.size W w') := fun W hW => by
    have h_ := ownTrace_any W _ l (hl.below hW) (by rw [hln]; omega)
    rw [hln] at h_
    exact h_.mono fun _ _ ⟨a', c', q1, q2, q3⟩ => ⟨a', c', q1, q2.isl, q3⟩
  have HOI : Hid (∀ W, Below w.heap.size w W → Calls Try.prog 11 #[.slice a1 n1 c1] W fun e w' => ∃ a' c', e = .returned (.slice a' n1 c') ∧ IsL KI w' (.slice a' n1 c') hs ∧ Below W.heap.size W w') := fun W hW => by
    have h_ := own_any W _ hs (hh.below hW) (by rw [hhn]; omega)
    rw [hhn] at h_
    exact h_.mono fun _ _ ⟨a', c', q1, q2, q3⟩ => ⟨a', c', q1, q2.isl, q3⟩
  have HCK : Hid (∀ W a c a' c', IsL KE W (.slice a n0 c) l → IsL KI W (.slice a' n1 c') hs → Calls Try.prog 12 #[.slice a n0 c, .slice a' n1 c'] W fun e w' => e = .returned (.agg #[.int .i64 0, .int .i64 0]) ∧ Below W.heap.size W w') := fun W a c a' c' q1 q2 => by
    have h_ := check_any W a n0 c a' n1 c' l hs q1 q2
    rwa [hf] at h_
  have HTF : Hid (∀ W, Below w.heap.size w W → Calls Try.prog 15 #[.slice a0 n0 c0, .slice a1 n1 c1] W fun e w' => e = .returned (.agg #[.int .i64 0, .int .i64 0]) ∧ Below W.heap.size W w') := fun W hW => by
    have h_ := tf_any W a0 n0 c0 a1 n1 c1 l hs (hl.below hW) (hh.below hW)
    rwa [hf] at h_
  have HCL : Hid (∀ W a c a' c', IsL KE W (.slice a n0 c) l → IsL KI W (.slice a' n1 c') hs → Calls Try.prog 13 #[.slice a n0 c, .slice a' n1 c'] W fun e w' => ∃ G, e = .returned (.tuple #[.slice (some ⟨G, 0, none⟩) n0 n0, .agg #[.int .i64 0, .int .i64 0]]) ∧ Rows2 (W.heap.size + 1) w' G n0 (rowL hs l m) m n0 ∧ W.heap.size + 1 ≤ G ∧ Below W.heap.size W w') := fun W a c a' c' q1 q2 => clocks_good W a n0 c a' n1 c' l hs q1 q2 hg m hm
  have HBE : Hid (∀ W a c a' c', IsL KE W (.slice a n0 c) l → IsL KI W (.slice a' n1 c') hs → Calls Try.prog 14 #[.slice a n0 c, .slice a' n1 c', .int .i64 zi, .int .i64 zk] W fun e w' => e = .returned (.tuple #[.bool false, .agg #[.int .i64 3, .int .i64 (-1)]]) ∧ Below W.heap.size W w') := fun W a c a' c' q1 q2 => before_out2 W a n0 c a' n1 c' l hs q1 q2 hg zi zk (by omega) (by omega)
  have HST : Hid (∀ W a c, IsL KE W (.slice a n0 c) l → Below w.heap.size w W → Calls Try.prog 16 #[.slice a n0 c, .slice a0 n0 c0] W fun e w' => e = .returned (.bool true) ∧ Below W.heap.size W w') := fun W a c q1 hW => trace_same W _ _ l q1 (hl.below hW) (by rw [hln]; omega)
  have HIN : Hid (∀ W a c, IsL KI W (.slice a n1 c) hs → Below w.heap.size w W → Calls Try.prog 17 #[.slice a n1 c, .slice a1 n1 c1] W fun e w' => e = .returned (.bool true) ∧ Below W.heap.size W w') := fun W a c q1 hW => ints_same W _ _ hs q1 (hh.below hW) (by rw [hhn]; unfold maxLen; omega)
  have HL := hide hl; have HH := hide hh
  clear hl hh hln hhn hf
  go_enter Try.func3, Try.ntmps3
  go_upto_region 5 with (go_at_call 9; (with_reducible refine Calls.mono (begun_any _) ?_); rintro e w1 ⟨rfl, hb1⟩; have HX_0 := hide hb1; clear hb1)
  go_upto_region 6 with (first
    | (go_at_call 10; (with_reducible refine Calls.mono (unhide HOT _ (unhide HX_0)) ?_); rintro e w2 ⟨a2, c2, rfl, hi2, hb2⟩; have HX_1 := hide (Below.next (unhide HX_0) hb2 (Nat.le_refl _)); clear HX_0; have HIX_1 := hide hi2; clear hi2 hb2)
    | (go_at_call 11; (with_reducible refine Calls.mono (unhide HOI _ (unhide HX_1)) ?_); rintro e w3 ⟨a3, c3, rfl, hi3, hb3⟩; have HX_2 := hide (Below.next (unhide HX_1) hb3 (Nat.le_refl _)); have HIX_2 := hide ((unhide HIX_1).below hb3); clear HX_1 HIX_1; have HIY_2 := hide hi3; clear hi3 hb3))
  clear HOT HOI
  go_upto_region 7 with (go_at_call 12; (with_reducible refine Calls.mono (unhide HCK _ _ _ _ _ (unhide HIX_2) (unhide HIY_2)) ?_); rintro e w4 ⟨rfl, hb4⟩; have HX_3 := hide (Below.next (unhide HX_2) hb4 (Nat.le_refl _)); have HIX_3 := hide ((unhide HIX_2).below hb4); have HIY_3 := hide ((unhide HIY_2).below hb4); clear HX_2 HIX_2 HIY_2; clear hb4)
  have HX_4 := hide ((unhide HX_3).alloc (unhide HX_3).size (.cells #[.int .i64 0, .int .i64 0] 28))
  have HIX_4 := hide ((unhide HIX_3).below ((Below.refl _ _).alloc (Nat.le_refl _) (.cells #[.int .i64 0, .int .i64 0] 28)))
  have HIY_4 := hide ((unhide HIY_3).below ((Below.refl _ _).alloc (Nat.le_refl _) (.cells #[.int .i64 0, .int .i64 0] 28)))
  have HC_4 := hide (new_block w4 (.cells #[.int .i64 0, .int .i64 0] 28))
  obtain ⟨C, eC⟩ : ∃ X, w4.heap.size = X := ⟨_, rfl⟩
  obtain ⟨W4, eW4⟩ : ∃ X, w4.alloc (.cells #[.int .i64 0, .int .i64 0] 28) = X := ⟨_, rfl⟩
  rw [eW4] at HX_4
  rw [eW4] at HIX_4
  rw [eW4] at HIY_4
  rw [eC, eW4] at HC_4
  rw [eC, eW4]
  clear eC eW4 HX_3 HIX_3 HIY_3
  clear HCK
  go_upto_region 8 with (go_at_call 13; (with_reducible refine Calls.mono (unhide HCL _ _ _ _ _ (unhide HIX_4) (unhide HIY_4)) ?_); rintro e w5 ⟨G, rfl, hr5, _, hb5⟩; have HX_5 := hide (Below.next (unhide HX_4) hb5 (Nat.le_refl _)); have HIX_5 := hide ((unhide HIX_4).below hb5); have HIY_5 := hide ((unhide HIY_4).below hb5); have HC_5 := hide (keep_below (unhide HC_4) hb5); clear HX_4 HIX_4 HIY_4 HC_4; have HR_5 := hide hr5; clear hr5 hb5)
  have HX_6 := hide ((unhide HX_5).alloc (unhide HX_5).size (.cells #[.int .i64 0, .int .i64 0] 28))
  have HIX_6 := hide ((unhide HIX_5).below ((Below.refl _ _).alloc (Nat.le_refl _) (.cells #[.int .i64 0, .int .i64 0] 28)))
  have HIY_6 := hide ((unhide HIY_5).below ((Below.refl _ _).alloc (Nat.le_refl _) (.cells #[.int .i64 0, .int .i64 0] 28)))
  have HC_6 := hide (keep_alloc (unhide HC_5) (.cells #[.int .i64 0, .int .i64 0] 28))
  have HR_6 := hide ((unhide HR_5).below ((Below.refl _ _).alloc (Nat.le_refl _) (.cells #[.int .i64 0, .int .i64 0] 28)))
  have HF_6 := hide (new_block w5 (.cells #[.int .i64 0, .int .i64 0] 28))
  obtain ⟨F1, eF1⟩ : ∃ X, w5.heap.size = X := ⟨_, rfl⟩
  obtain ⟨W6, eW6⟩ : ∃ X, w5.alloc (.cells #[.int .i64 0, .int .i64 0] 28) = X := ⟨_, rfl⟩
  rw [eW6] at HX_6
  rw [eW6] at HIX_6
  rw [eW6] at HIY_6
  rw [eW6] at HC_6
  rw [eW6] at HR_6
  rw [eF1, eW6] at HF_6
  rw [eF1, eW6]
  clear eF1 eW6 HX_5 HIX_5 HIY_5 HC_5 HR_5
  clear HCL
  go_upto_region 9 with (go_at_call 14; (with_reducible refine Calls.mono (unhide HBE _ _ _ _ _ (unhide HIX_6) (unhide HIY_6)) ?_); rintro e w6 ⟨rfl, hb6⟩; have HX_7 := hide (Below.next (unhide HX_6) hb6 (Nat.le_refl _)); have HIX_7 := hide ((unhide HIX_6).below hb6); have HIY_7 := hide ((unhide HIY_6).below hb6); have HC_7 := hide (keep_below (unhide HC_6) hb6); have HR_7 := hide ((unhide HR_6).below hb6); have HF_7 := hide (keep_below (unhide HF_6) hb6); clear HX_6 HIX_6 HIY_6 HC_6 HR_6 HF_6; clear hb6)
  have HX_8 := hide ((unhide HX_7).alloc (unhide HX_7).size (.cells #[.int .i64 3, .int .i64 (-1)] 28))
  have HIX_8 := hide ((unhide HIX_7).below ((Below.refl _ _).alloc (Nat.le_refl _) (.cells #[.int .i64 3, .int .i64 (-1)] 28)))
  have HIY_8 := hide ((unhide HIY_7).below ((Below.refl _ _).alloc (Nat.le_refl _) (.cells #[.int .i64 3, .int .i64 (-1)] 28)))
  have HC_8 := hide (keep_alloc (unhide HC_7) (.cells #[.int .i64 3, .int .i64 (-1)] 28))
  have HR_8 := hide ((unhide HR_7).below ((Below.refl _ _).alloc (Nat.le_refl _) (.cells #[.int .i64 3, .int .i64 (-1)] 28)))
  have HF_8 := hide (keep_alloc (unhide HF_7) (.cells #[.int .i64 3, .int .i64 (-1)] 28))
  have HP_8 := hide (new_block w6 (.cells #[.int .i64 3, .int .i64 (-1)] 28))
  obtain ⟨F2, eF2⟩ : ∃ X, w6.heap.size = X := ⟨_, rfl⟩
  obtain ⟨W8, eW8⟩ : ∃ X, w6.alloc (.cells #[.int .i64 3, .int .i64 (-1)] 28) = X := ⟨_, rfl⟩
  rw [eW8] at HX_8
  rw [eW8] at HIX_8
  rw [eW8] at HIY_8
  rw [eW8] at HC_8
  rw [eW8] at HR_8
  rw [eW8] at HF_8
  rw [eF2, eW8] at HP_8
  rw [eF2, eW8]
  clear eF2 eW8 HX_7 HIX_7 HIY_7 HC_7 HR_7 HF_7
  clear HBE
  go_upto_region 10 with (go_at_call 15; (with_reducible refine Calls.mono (unhide HTF _ (unhide HX_8)) ?_); rintro e w7 ⟨rfl, hb7⟩; have HX_9 := hide (Below.next (unhide HX_8) hb7 (Nat.le_refl _)); have HIX_9 := hide ((unhide HIX_8).below hb7); have HIY_9 := hide ((unhide HIY_8).below hb7); have HC_9 := hide (keep_below (unhide HC_8) hb7); have HR_9 := hide ((unhide HR_8).below hb7); have HF_9 := hide (keep_below (unhide HF_8) hb7); have HP_9 := hide (keep_below (unhide HP_8) hb7); clear HX_8 HIX_8 HIY_8 HC_8 HR_8 HF_8 HP_8; clear hb7)
  have HX_10 := hide ((unhide HX_9).alloc (unhide HX_9).size (.cells #[.int .i64 0, .int .i64 0] 28))
  have HIX_10 := hide ((unhide HIX_9).below ((Below.refl _ _).alloc (Nat.le_refl _) (.cells #[.int .i64 0, .int .i64 0] 28)))
  have HIY_10 := hide ((unhide HIY_9).below ((Below.refl _ _).alloc (Nat.le_refl _) (.cells #[.int .i64 0, .int .i64 0] 28)))
  have HC_10 := hide (keep_alloc (unhide HC_9) (.cells #[.int .i64 0, .int .i64 0] 28))
  have HR_10 := hide ((unhide HR_9).below ((Below.refl _ _).alloc (Nat.le_refl _) (.cells #[.int .i64 0, .int .i64 0] 28)))
  have HF_10 := hide (keep_alloc (unhide HF_9) (.cells #[.int .i64 0, .int .i64 0] 28))
  have HP_10 := hide (keep_alloc (unhide HP_9) (.cells #[.int .i64 0, .int .i64 0] 28))
  have HD_10 := hide (new_block w7 (.cells #[.int .i64 0, .int .i64 0] 28))
  obtain ⟨D, eD⟩ : ∃ X, w7.heap.size = X := ⟨_, rfl⟩
  obtain ⟨W10, eW10⟩ : ∃ X, w7.alloc (.cells #[.int .i64 0, .int .i64 0] 28) = X := ⟨_, rfl⟩
  rw [eW10] at HX_10
  rw [eW10] at HIX_10
  rw [eW10] at HIY_10
  rw [eW10] at HC_10
  rw [eW10] at HR_10
  rw [eW10] at HF_10
  rw [eW10] at HP_10
  rw [eD, eW10] at HD_10
  rw [eD, eW10]
  clear eD eW10 HX_9 HIX_9 HIY_9 HC_9 HR_9 HF_9 HP_9
  clear HTF
  obtain ⟨g0, g1, gf0, gf1, gl⟩ := block2 (unhide HC_10)
  obtain ⟨p0, p1, pf0, pf1, pl⟩ := block2 (unhide HF_10)
  obtain ⟨q0, q1, qf0, qf1, ql⟩ := block2 (unhide HD_10)
  go_upto_region 12 with (first
    | (go_at_call 16; (with_reducible refine Calls.mono (unhide HST _ _ _ (unhide HIX_10) (unhide HX_10)) ?_); rintro e w8 ⟨rfl, hb8⟩; have HX_11 := hide (Below.next (unhide HX_10) hb8 (Nat.le_refl _)); have HIX_11 := hide ((unhide HIX_10).below hb8); have HIY_11 := hide ((unhide HIY_10).below hb8); have HC_11 := hide (keep_below (unhide HC_10) hb8); have HR_11 := hide ((unhide HR_10).below hb8); have HF_11 := hide (keep_below (unhide HF_10) hb8); have HP_11 := hide (keep_below (unhide HP_10) hb8); have HD_11 := hide (keep_below (unhide HD_10) hb8); clear HX_10 HIX_10 HIY_10 HC_10 HR_10 HF_10 HP_10 HD_10; clear hb8)
    | (go_at_call 17; (with_reducible refine Calls.mono (unhide HIN _ _ _ (unhide HIY_11) (unhide HX_11)) ?_); rintro e w9 ⟨rfl, hb9⟩; have HX_12 := hide (Below.next (unhide HX_11) hb9 (Nat.le_refl _)); have HIX_12 := hide ((unhide HIX_11).below hb9); have HIY_12 := hide ((unhide HIY_11).below hb9); have HC_12 := hide (keep_below (unhide HC_11) hb9); have HR_12 := hide ((unhide HR_11).below hb9); have HF_12 := hide (keep_below (unhide HF_11) hb9); have HP_12 := hide (keep_below (unhide HP_11) hb9); have HD_12 := hide (keep_below (unhide HD_11) hb9); clear HX_11 HIX_11 HIY_11 HC_11 HR_11 HF_11 HP_11 HD_11; clear hb9))
  clear g0 g1 gf0 gf1 gl p0 p1 pf0 pf1 pl q0 q1 qf0 qf1 ql HST HIN
  clear HC_12 HF_12 HIX_12 HIY_12
  obtain ⟨q0, q1, qf0, qf1, ql⟩ := block2 (unhide HD_12)
  go_upto_region 13 with fail
  clear q0 q1 qf0 qf1 ql
  have HBV := hide ((Below.refl w9.heap.size w9).alloc (Nat.le_refl _) (.cells #[.int .i64 0, .int .i64 0] 28))
  have HVQ := hide (new_block w9 (.cells #[.int .i64 0, .int .i64 0] 28))
  obtain ⟨V, eV⟩ : ∃ X, w9.heap.size = X := ⟨_, rfl⟩
  obtain ⟨WV, eW⟩ : ∃ X, w9.alloc (.cells #[.int .i64 0, .int .i64 0] 28) = X := ⟨_, rfl⟩
  rw [eV, eW] at HBV HVQ
  rw [eV, eW]
  have HVS := hide eV
  clear eV eW
  obtain ⟨g0, g1, gf0, gf1, gl⟩ := block2 (unhide HVQ)
  go_upto_region 15 with (go_at_call 18; (with_reducible refine Calls.mono (F_any _ _ _) ?_); rintro e w11 ⟨rfl, hb11⟩; have HB2 := hide (Below.next (unhide HBV) hb11 (Nat.le_of_eq (unhide HVS).symm)); have HV2 := hide (keep_below (unhide HVQ) hb11); obtain ⟨k0, k1, kf0, kf1, kl⟩ := block2 (unhide HV2); clear hb11)
  have HB3 := hide (((unhide HB2).setCell (p := ⟨V, 0, none⟩) (Nat.le_refl V) (.int .i64 3)).setCell (p := ⟨V, 1, none⟩) (Nat.le_refl V) (.int .i64 (-1)))
  have HV3 := hide (set2_block (x' := .int .i64 3) (y' := .int .i64 (-1)) (unhide HV2))
  obtain ⟨W12, eW⟩ : ∃ X, (w11.setCell ⟨V, 0, none⟩ (.int .i64 3)).setCell ⟨V, 1, none⟩ (.int .i64 (-1)) = X := ⟨_, rfl⟩
  rw [eW] at HB3 HV3
  rw [eW]
  clear eW g0 g1 gf0 gf1 gl k0 k1 kf0 kf1 kl HBV HVQ HB2 HV2
  have hb12 : Below w9.heap.size w9 W12 := by rw [unhide HVS]; exact unhide HB3
  (have HX_13 := hide (Below.next (unhide HX_12) hb12 (Nat.le_refl _)); have HR_13 := hide ((unhide HR_12).below hb12); have HP_13 := hide (keep_below (unhide HP_12) hb12); have HD_13 := hide (keep_below (unhide HD_12) hb12); clear HX_12 HR_12 HP_12 HD_12)
  clear hb12
  have HV_13 := HV3
  clear HV3
  obtain ⟨g0, g1, gf0, gf1, gl⟩ := block2 (unhide HV_13)
  obtain ⟨p0, p1, pf0, pf1, pl⟩ := block2 (unhide HP_13)
  obtain ⟨q0, q1, qf0, qf1, ql⟩ := block2 (unhide HD_13)
  go_upto_region 19 with fail
  clear g0 g1 gf0 gf1 gl p0 p1 pf0 pf1 pl q0 q1 qf0 qf1 ql
  exact oc_tail w a0 n0 c0 a1 n1 c1 l hs (unhide HL) (unhide HH) (unhide HG) h1 W12 (unhide HX_13) m (unhide HML) _ G (unhide HR_13) V 3 (-1) (unhide HV_13) false zi zk (Or.inl (by decide)) _ _ _ _ _ (by assumption) (by assumption) (by kernel_rfl)
end Go.Proofs.Ytbnmeeabpjmcoaa
