/-
  taskmilllaw.RaceGuards: its loops over cells, locks and events.
-/
import Derived.Test.YtbnmeeabpjmcoaaYg
import Derived.Test.YtbnmeeabpjmcoaaSq
namespace Go.Proofs.Ytbnmeeabpjmcoaa
open Go.RowKit

/-- The statement that opens with the region n, its second part, and what follows it. -/
def cutIf (n : Nat) : Code → Option (Code × Code × Code)
  | .seq (.seq (.region id ops dr) c) b => bif Nat.beq id n then some (.region id ops dr, c, b) else cutIf n b
  | .seq _ b => cutIf n b
  | _ => none

set_option maxRecDepth 100000 in
set_option maxHeartbeats 4000000 in
theorem gu_tail (w : World) (a0 : Option Addr) (n0 c0 : Nat) (a1 : Option Addr) (n1 c1 : Nat) (l : List Ev) (hs : List Int) (hl : IsL KE w (.slice a0 n0 c0) l) (_hh : IsL KI w (.slice a1 n1 c1) hs) (h : n0 ≤ 300) (hg : GoodT hs l) (G m : Nat) (hm : cellsN l n0 = (m : Int)) (Wt : World) (hR : RowsG Wt G m m (fun i => guardsJ l n0 (i : Int) 21)) (hX : Below w.heap.size w Wt)
    {s2 s3 s6 s7 s9 s10 s11 s12 s13 s14 s15 s16 s17 s18 s19 s20 s21 s22 s23 s24 s25 s26 s27 s28 s29 s30 s31 s32 s33 s34 s35 s36 s37 s38 s39 s40 s41 s42 s43 s44 s45 s46 s47 s48 s49 s50 s51 s52 s53 s54 s55 s56 s57 s58 s59 s60 s61 s62 s63 s64 s65 s66 s67 s68 s69 s70 s71 s72 s73 s74 s75 s76 s77 s78 s79 s80 s81 s82 s83 s84 s85 s86 s87 s88 s89 s90 s91 s92 s93 s94 s95 s96 s97 s98 s99 s100 s101 s102 s103 s104 s105 s106 s107 s108 s109 s110 s111 s112 s113 s114 s115 s116 s117 s118 s119 s120 s121 s122 s123 s124 s125 s126 s127 s128 : Value} (K1 K2 : Act → World → Prop) (x y z : Code) (hK1 : ∀ a w', y.wp Try.prog (Exit.then K2 (bodyPost Try.prog Try.f8 fun e w' => e = .returned (.bool true) ∧ Below w.heap.size w w')) a w' → K1 a w') (hK2 : ∀ a w', z.wp Try.prog (bodyPost Try.prog Try.f8 fun e w' => e = .returned (.bool true) ∧ Below w.heap.size w w') a w' → K2 a w') (hcut : Try.f8.body.bind (cutIf 19) = some (x, y, z)) :
    x.wp Try.prog (Exit.then K1 (Exit.then K2 (bodyPost Try.prog Try.f8 fun e w' => e = .returned (.bool true) ∧ Below w.heap.size w w'))) { tmps := (.slice a0 n0 c0 :: .slice a1 n1 c1 :: s2 :: s3 :: .bool false :: .slice (some ⟨G, 0, none⟩) m m :: s6 :: s7 :: .int .i64 (m : Int) :: s9 :: s10 :: s11 :: s12 :: s13 :: s14 :: s15 :: s16 :: s17 :: s18 :: s19 :: s20 :: s21 :: s22 :: s23 :: s24 :: s25 :: s26 :: s27 :: s28 :: s29 :: s30 :: s31 :: s32 :: s33 :: s34 :: s35 :: s36 :: s37 :: s38 :: s39 :: s40 :: s41 :: s42 :: s43 :: s44 :: s45 :: s46 :: s47 :: s48 :: s49 :: s50 :: s51 :: s52 :: s53 :: s54 :: s55 :: s56 :: s57 :: s58 :: s59 :: s60 :: s61 :: s62 :: s63 :: s64 :: s65 :: s66 :: s67 :: s68 :: s69 :: s70 :: s71 :: s72 :: s73 :: s74 :: s75 :: s76 :: s77 :: s78 :: s79 :: s80 :: s81 :: s82 :: s83 :: s84 :: s85 :: s86 :: s87 :: s88 :: s89 :: s90 :: s91 :: s92 :: s93 :: s94 :: s95 :: s96 :: s97 :: s98 :: s99 :: s100 :: s101 :: s102 :: s103 :: s104 :: s105 :: s106 :: s107 :: s108 :: s109 :: s110 :: s111 :: s112 :: s113 :: s114 :: s115 :: s116 :: s117 :: s118 :: s119 :: s120 :: s121 :: s122 :: s123 :: s124 :: s125 :: s126 :: s127 :: s128 :: []).toArray, defers := [] } Wt := by
  have hcc : Try.f8.body.bind (cutIf 19) = some (_, _, _) := rfl
  rw [hcc] at hcut
  cases hcut
  clear hcc
  have hln := hl.len
  have hmc := cells_nn (good_objs hg) n0 (by omega)
  rw [hm] at hmc
  have HLN := hide hln
  have HTR := hide (hl.opens ke hln)
  have HX := hide hX
  have HR := hide hR
  have HZ : Hid (Below Wt.heap.size Wt Wt) := Below.refl _ _
  clear hl _hh hg hm hX hR hln
  go_wp2_with fail
  go_loopw [10] (fun i wr => ∃ c : Nat, c ≤ m ∧ i = .int .i64 (c : Int) ∧ Hid (Below Wt.heap.size Wt wr)) (fun i _ => m - (intOf i).toNat)
  case atStart => exact ⟨0, Nat.zero_le _, rfl, HZ⟩
  case round =>
    obtain ⟨c, hc, rfl, HBc⟩ := hrel
    by_cases hcm : c < m
    · have i0 : (0 : Int) ≤ (c : Int) := by omega
      have i1 : (c : Int) < (m : Int) := by omega
      have hw1 : IntKind.i64.wrap ((c : Int) + 1) = (c : Int) + 1 := wrapi (by omega) (by omega)
      have HCM := hide hcm
      clear HZ
      go_wp2_with fail
      have HOc : Hid (Own KI Wt.heap.size wr (.slice none 0 0) (guardsJ l n0 (c : Int) 0)) := own_nil _ _
      have HZc : Hid (Below Wt.heap.size Wt wr) := HBc
      go_loopw [11, 12] (fun s11 j wr => ∃ (o : Nat) (a : Option Addr) (r k : Nat), o ≤ 21 ∧ j = .int .i64 (o : Int) ∧ s11 = .slice a r k ∧ Hid ((guardsJ l n0 (c : Int) o).length = r) ∧ Hid (Own KI Wt.heap.size wr (.slice a r k) (guardsJ l n0 (c : Int) o)) ∧ Hid (Below Wt.heap.size Wt wr)) (fun _ j _ => 21 - (intOf j).toNat)
      case atStart => exact ⟨0, none, 0, 0, Nat.zero_le _, rfl, rfl, hide rfl, HOc, HZc⟩
      case round =>
        obtain ⟨o, a, r, k, ho, rfl, rfl, HRL, HOR, HBo⟩ := hrel
        clear HOc HZc
        by_cases hlt : o < 21
        · have j0 : (0 : Int) ≤ (o : Int) := by omega
          have j1 : (o : Int) ≤ 20 := by omega
          have hw2 : IntKind.i64.wrap ((o : Int) + 1) = (o : Int) + 1 := wrapi (by omega) (by omega)
          have hrj := guardsJ_len l n0 (c : Int) o
          rw [unhide HRL] at hrj
          go_wp2_with fail
          go_loopw [13, 14, 15] (fun s13 s14 i wi => ∃ (x : Nat) (A S : Bool), x ≤ n0 ∧ i = .int .i64 (x : Int) ∧ s13 = .bool A ∧ s14 = .bool S ∧ Hid (allJ l (c : Int) (o : Int) x = A) ∧ Hid (someJ l (c : Int) x = S) ∧ Hid (Own KI Wt.heap.size wi (.slice a r k) (guardsJ l n0 (c : Int) o)) ∧ Hid (Below Wt.heap.size Wt wi)) (fun _ _ i _ => n0 - (intOf i).toNat)
          case atStart => exact ⟨0, true, false, Nat.zero_le _, rfl, rfl, rfl, hide rfl, hide rfl, HOR, HBo⟩
          case round =>
            obtain ⟨x, A, S, hx, rfl, rfl, rfl, HA, HS, HOx, HBx⟩ := hrel
            clear HOR HBo
            by_cases hxn : x < n0
            · have p0 : (0 : Int) ≤ (x : Int) := by omega
              have p1 : (x : Int) < (n0 : Int) := by omega
              have hw3 : IntKind.i64.wrap ((x : Int) + 1) = (x : Int) + 1 := wrapi (by omega) (by omega)
              obtain ⟨tb, tof, rfl, htb, hli⟩ := unhide HTR (by omega)
              obtain ⟨⟨tk, op, ob, vl⟩, ex⟩ : ∃ X, l.getD x ev0 = X := ⟨_, rfl⟩
              have hbw : ∀ W, Below Wt.heap.size Wt W → Below w.heap.size w W := fun W hW => (unhide HX).trans (hW.mono (unhide HX).size)
              have HCE : Hid (∀ W, Below Wt.heap.size Wt W → W.cell? ⟨tb, tof + x * 4, none⟩ = some (.int .i64 tk) ∧ W.cell? ⟨tb, tof + x * 4 + 1, none⟩ = some (.int .i64 op) ∧ W.cell? ⟨tb, tof + x * 4 + 2, none⟩ = some (.int .i64 ob) ∧ W.cell? ⟨tb, tof + x * 4 + 3, none⟩ = some (.int .i64 vl)) := fun W hW => (hli.below (hbw W hW) htb).ev (j := x) (by rw [unhide HLN]; exact hxn) ex
              have HAC : Hid (∀ W, Calls Try.prog 28 #[.agg #[.int .i64 tk, .int .i64 op, .int .i64 ob, .int .i64 vl]] W fun e w' => e = .returned (.bool (op == 12 || op == 13)) ∧ Below W.heap.size W w') := fun W => access_any W tk op ob vl
              have HHO : Hid (∀ W, Below Wt.heap.size Wt W → Calls Try.prog 29 #[.slice (some ⟨tb, tof, none⟩) n0 c0, .int .i64 (x : Int), .int .i64 (o : Int)] W fun e w' => e = .returned (.int .i64 (holdN l x tk (o : Int))) ∧ Below W.heap.size W w') := fun W hW => holds_any W tb tof n0 c0 l (hli.below (hbw W hW) htb) (Nat.lt_of_lt_of_le htb (hbw W hW).size) (unhide HLN) (by omega) x hxn (o : Int) tk (by rw [ex])
              have HON : Hid (onCell l (c : Int) x = ((op == 12 || op == 13) && ob == (c : Int))) := by show _ = _; unfold onCell isAcc; rw [ex]
              have HTK : Hid ((l.getD x ev0).task = tk) := by show _ = _; rw [ex]
              obtain ⟨k0, k1, k2, k3⟩ := unhide HCE _ (unhide HBx)
              obtain ⟨q, hq⟩ : ∃ X, (op == 12 || op == 13) = X := ⟨_, rfl⟩
              rw [hq] at HAC HON
              clear hli ex hbw hq
              cases q
              · have hno : onCell l (c : Int) x = false := by rw [unhide HON]; rfl
                have HA2 := hide (show allJ l (c : Int) (o : Int) (x + 1) = A by unfold allJ; rw [hno, unhide HA]; simp)
                have HS2 := hide (show someJ l (c : Int) (x + 1) = S by unfold someJ; rw [hno, unhide HS]; simp)
                clear hno
                go_wp2_with (go_at_call 28; (with_reducible refine Calls.mono (unhide HAC _) ?_); rintro e w5 ⟨rfl, hb5⟩; have HB5 := hide ((unhide HBx).trans (hb5.mono (unhide HBx).size)); have HO5 := hide ((unhide HOx).below hb5); clear hb5)
                go_roundw
                case rel => exact ⟨x + 1, A, S, by omega, by go_num, rfl, rfl, HA2, HS2, HO5, HB5⟩
                case measure => simp [intOf]; omega
              · by_cases hob : ob = (c : Int)
                · have hyes : onCell l (c : Int) x = true := by rw [unhide HON]; simp [hob]
                  have x2 : (ob == (c : Int)) = true := by simpa using hob
                  have HS2 := hide (show someJ l (c : Int) (x + 1) = true by unfold someJ; rw [hyes]; simp)
                  cases A
                  · have HA2 := hide (show allJ l (c : Int) (o : Int) (x + 1) = false by unfold allJ; rw [unhide HA]; rfl)
                    clear hyes hob
                    go_wp2_with (go_at_call 28; (with_reducible refine Calls.mono (unhide HAC _) ?_); rintro e w5 ⟨rfl, hb5⟩; have HB5 := hide ((unhide HBx).trans (hb5.mono (unhide HBx).size)); have HO5 := hide ((unhide HOx).below hb5); obtain ⟨m0, m1, m2, m3⟩ := unhide HCE _ (unhide HB5); clear hb5)
                    go_roundw
                    case rel => exact ⟨x + 1, false, true, by omega, by go_num, rfl, rfl, HA2, HS2, HO5, HB5⟩
                    case measure => simp [intOf]; omega
                  · obtain ⟨v, hv⟩ : ∃ X, holdN l x tk (o : Int) = X := ⟨_, rfl⟩
                    have HA2 := hide (show allJ l (c : Int) (o : Int) (x + 1) = decide (0 < v) by unfold allJ; rw [unhide HA, hyes, unhide HTK, hv]; simp)
                    rw [hv] at HHO
                    clear hyes hob hv
                    go_wp2_with (first
                      | (go_at_call 28; (with_reducible refine Calls.mono (unhide HAC _) ?_); rintro e w5 ⟨rfl, hb5⟩; have HB5 := hide ((unhide HBx).trans (hb5.mono (unhide HBx).size)); have HO5 := hide ((unhide HOx).below hb5); obtain ⟨m0, m1, m2, m3⟩ := unhide HCE _ (unhide HB5); clear hb5)
                      | (go_at_call 29; (with_reducible refine Calls.mono (unhide HHO _ (unhide HB5)) ?_); rintro e w6 ⟨rfl, hb6⟩; have HB6 := hide ((unhide HB5).trans (hb6.mono (unhide HB5).size)); have HO6 := hide ((unhide HO5).below hb6); clear hb6))
                    go_roundw
                    case rel => exact ⟨x + 1, decide (0 < v), true, by omega, by go_num, rfl, rfl, HA2, HS2, HO6, HB6⟩
                    case measure => simp [intOf]; omega
                · have hno : onCell l (c : Int) x = false := by rw [unhide HON]; simp [hob]
                  have x2 : (ob == (c : Int)) = false := by simpa using hob
                  have HA2 := hide (show allJ l (c : Int) (o : Int) (x + 1) = A by unfold allJ; rw [hno, unhide HA]; simp)
                  have HS2 := hide (show someJ l (c : Int) (x + 1) = S by unfold someJ; rw [hno, unhide HS]; simp)
                  clear hno hob
                  go_wp2_with (go_at_call 28; (with_reducible refine Calls.mono (unhide HAC _) ?_); rintro e w5 ⟨rfl, hb5⟩; have HB5 := hide ((unhide HBx).trans (hb5.mono (unhide HBx).size)); have HO5 := hide ((unhide HOx).below hb5); obtain ⟨m0, m1, m2, m3⟩ := unhide HCE _ (unhide HB5); clear hb5)
                  go_roundw
                  case rel => exact ⟨x + 1, A, S, by omega, by go_num, rfl, rfl, HA2, HS2, HO5, HB5⟩
                  case measure => simp [intOf]; omega
            · obtain rfl : x = n0 := by omega
              have p1 : ¬ (x : Int) < (x : Int) := by omega
              have HGI := hide (show guardB l x (c : Int) o = (A && S) by rw [guard_is, unhide HA, unhide HS])
              cases A
              · have HGJ := hide (guardsJ_no (l := l) (n := x) (c := (c : Int)) (j := o) (by rw [unhide HGI]; rfl))
                go_wp2_with fail
                go_roundw
                case rel => exact ⟨o + 1, a, r, k, by omega, by go_num, rfl, hide (by rw [unhide HGJ]; exact unhide HRL), hide (by rw [unhide HGJ]; exact unhide HOx), HBx⟩
                case measure => simp [intOf]; omega
              · cases S
                · have HGJ := hide (guardsJ_no (l := l) (n := x) (c := (c : Int)) (j := o) (by rw [unhide HGI]; rfl))
                  go_wp2_with fail
                  go_roundw
                  case rel => exact ⟨o + 1, a, r, k, by omega, by go_num, rfl, hide (by rw [unhide HGJ]; exact unhide HRL), hide (by rw [unhide HGJ]; exact unhide HOx), HBx⟩
                  case measure => simp [intOf]; omega
                · have HGJ := hide (guardsJ_yes (l := l) (n := x) (c := (c : Int)) (j := o) (by rw [unhide HGI]; rfl))
                  have HOP := hide ((unhide HOx).below ((Below.refl wr.heap.size wr).alloc (Nat.le_refl _) (.cells #[.int .i64 (o : Int)] 3)))
                  have HBP := hide ((unhide HBx).alloc (unhide HBx).size (.cells #[.int .i64 (o : Int)] 3))
                  have HIP := hide (isl_one ki wr (o : Int))
                  go_wp2_with (at_builtin; refine wpList_append ki rfl (.tmp 118) (.tmp 120) rfl Wt.heap.size _ (guardsJ l x (c : Int) o) rfl (unhide HOP) _ [(o : Int)] rfl (unhide HIP) (r + 1) (by rw [unhide HRL]; rfl) (by show (r + 1) * 8 ≤ 140737488355328; omega) (unhide HBP).size ?_; intro a7 k7 w7 ho7 hg7; have HO7 := hide ho7; have HB7 := hide ((unhide HBP).grown hg7 (unhide HBP).size (fun k hk => ((unhide HOP).lt k hk).1)); clear ho7 hg7)
                  go_roundw
                  case rel => exact ⟨o + 1, a7, r + 1, k7, by omega, by go_num, rfl, hide (by rw [unhide HGJ, List.length_append, unhide HRL]; rfl), hide (by rw [unhide HGJ]; exact unhide HO7), HB7⟩
                  case measure => simp [intOf]; omega
        · obtain rfl : o = 21 := by omega
          have j1 : ¬ ((21 : Nat) : Int) ≤ 20 := by omega
          obtain ⟨a9, k9, h9, o9⟩ := (unhide HR).row c (unhide HCM)
          have hrr := unhide HRL
          rw [hrr] at h9 o9
          have h9w := cell_of h9 ((unhide HBo).block G (unhide HR).lt)
          have o9w := o9.below (unhide HBo)
          have HIS := hide (ints_same wr _ _ (guardsJ l n0 (c : Int) 21) o9w.isl (unhide HOR).isl (by rw [hrr]; unfold maxLen; have := guardsJ_len l n0 (c : Int) 21; omega))
          clear hrr h9 o9 o9w
          go_wp2_with (go_at_call 17; (with_reducible refine Calls.mono (unhide HIS) ?_); rintro e w5 ⟨rfl, hb5⟩; have HB5 := hide ((unhide HBo).trans (hb5.mono (unhide HBo).size)); clear hb5)
          go_roundw
          case rel => exact ⟨c + 1, by omega, by go_num, HB5⟩
          case measure => simp [intOf]; omega
    · obtain rfl : c = m := by omega
      have i1 : ¬ (c : Int) < (c : Int) := by omega
      go_wp2_with fail
      go_ret
      exact ⟨rfl, (unhide HX).trans ((unhide HBc).mono (unhide HX).size)⟩
end Go.Proofs.Ytbnmeeabpjmcoaa
