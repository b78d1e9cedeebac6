/-
  taskmilllaw.OrderTasks: its walk.
-/
import Derived.Test.YtbnmeeabpjmcoaaV
import Derived.Test.YtbnmeeabpjmcoaaBe
namespace Go.Proofs.Ytbnmeeabpjmcoaa
open Go.RowKit

theorem fld0 (w : World) (a b : Int) : (Instr.field 28 (.agg #[.int .i64 a, .int .i64 b]) 0).run Try.prog w = .ok (.int .i64 a) w := by kernel_rfl

set_option maxRecDepth 100000 in
set_option maxHeartbeats 4000000 in
theorem tasks_long (w : World) (a0 : Option Addr) (n0 c0 : Nat) (a1 : Option Addr) (n1 c1 : Nat) (l : List Ev) (hs : List Int) (_hl : IsL KE w (.slice a0 n0 c0) l) (_hh : IsL KI w (.slice a1 n1 c1) hs) (h : 60 < n0) :
    Calls Try.prog 5 #[.slice a0 n0 c0, .slice a1 n1 c1] w fun e w' => e = .returned (.bool true) ∧ Below w.heap.size w w' := by
  have i1 : (60 : Int) < (n0 : Int) := by omega
  clear _hl _hh
  go_enter Try.func5, Try.ntmps5
  go_wp2_with (first
    | (go_at_call 9; (with_reducible refine Calls.mono (begun_any _) ?_); rintro e w1 ⟨rfl, hb1⟩; have HX1 := hide hb1; clear hb1))
  go_ret
  exact ⟨rfl, unhide HX1⟩

set_option maxRecDepth 100000 in
set_option maxHeartbeats 4000000 in
theorem tasks_many (w : World) (a0 : Option Addr) (n0 c0 : Nat) (a1 : Option Addr) (n1 c1 : Nat) (l : List Ev) (hs : List Int) (_hl : IsL KE w (.slice a0 n0 c0) l) (_hh : IsL KI w (.slice a1 n1 c1) hs) (h : ¬ 60 < n0) (h2 : 100 < n1) :
    Calls Try.prog 5 #[.slice a0 n0 c0, .slice a1 n1 c1] w fun e w' => e = .returned (.bool true) ∧ Below w.heap.size w w' := by
  have i1 : ¬ (60 : Int) < (n0 : Int) := by omega
  have i2 : (100 : Int) < (n1 : Int) := by omega
  clear _hl _hh
  go_enter Try.func5, Try.ntmps5
  go_wp2_with (first
    | (go_at_call 9; (with_reducible refine Calls.mono (begun_any _) ?_); rintro e w1 ⟨rfl, hb1⟩; have HX1 := hide hb1; clear hb1))
  go_ret
  exact ⟨rfl, unhide HX1⟩

set_option maxRecDepth 100000 in
set_option maxHeartbeats 4000000 in
theorem tasks_fault (w : World) (a0 : Option Addr) (n0 c0 : Nat) (a1 : Option Addr) (n1 c1 : Nat) (l : List Ev) (hs : List Int) (hl : IsL KE w (.slice a0 n0 c0) l) (hh : IsL KI w (.slice a1 n1 c1) hs) (h : ¬ 60 < n0) (h2 : ¬ 100 < n1) (fc fa : Int) (hf : checkF hs l = (fc, fa)) (hfc : fc ≠ 0) :
    Calls Try.prog 5 #[.slice a0 n0 c0, .slice a1 n1 c1] w fun e w' => e = .returned (.bool true) ∧ Below w.heap.size w w' := by
  have i1 : ¬ (60 : Int) < (n0 : Int) := by omega
  have i2 : ¬ (100 : Int) < (n1 : Int) := by omega
  have x1 : (fc != 0) = true := by simpa using hfc
  have HTF : Hid (∀ W, Below w.heap.size w W → Calls Try.prog 15 #[.slice a0 n0 c0, .slice a1 n1 c1] W fun e w' => e = .returned (.agg #[.int .i64 fc, .int .i64 fa]) ∧ Below W.heap.size W w') := fun W hW => by have := tf_any W a0 n0 c0 a1 n1 c1 l hs (hl.below hW) (hh.below hW); rwa [hf] at this
  have hfl := fld0
  clear hf hfc
  clear hl hh
  go_enter Try.func5, Try.ntmps5
  go_wp2_with (first
    | (go_at_call 9; (with_reducible refine Calls.mono (begun_any _) ?_); rintro e w1 ⟨rfl, hb1⟩; have HX1 := hide hb1; clear hb1)
    | (go_at_call 15; (with_reducible refine Calls.mono (unhide HTF _ (unhide HX1)) ?_); rintro e w2 ⟨rfl, hb2⟩; have HX2 := hide (Below.next (unhide HX1) hb2 (Nat.le_refl _)); clear hb2))
  go_ret
  exact ⟨rfl, unhide HX2⟩

set_option maxRecDepth 100000 in
set_option maxHeartbeats 4000000 in
theorem tasks_good (w : World) (a0 : Option Addr) (n0 c0 : Nat) (a1 : Option Addr) (n1 c1 : Nat) (l : List Ev) (hs : List Int) (hl : IsL KE w (.slice a0 n0 c0) l) (hh : IsL KI w (.slice a1 n1 c1) hs) (h1 : ¬ 60 < n0) (h2 : ¬ 100 < n1) (hg : GoodT hs l) :
    Calls Try.prog 5 #[.slice a0 n0 c0, .slice a1 n1 c1] w fun e w' => e = .returned (.bool true) ∧ Below w.heap.size w w' := by
  have hn := hl.len
  have i1 : ¬ (60 : Int) < (n0 : Int) := by omega
  have i2 : ¬ (100 : Int) < (n1 : Int) := by omega
  have HTF : Hid (∀ W, Below w.heap.size w W → Calls Try.prog 15 #[.slice a0 n0 c0, .slice a1 n1 c1] W fun e w' => e = .returned (.agg #[.int .i64 0, .int .i64 0]) ∧ Below W.heap.size W w') := fun W hW => by have := tf_any W a0 n0 c0 a1 n1 c1 l hs (hl.below hW) (hh.below hW); rwa [hg.zero] at this
  have hfl := fld0
  have HBB : Hid (∀ i k : Nat, i < n0 → k < n0 → ∀ W, Below w.heap.size w W → Calls Try.prog 14 #[.slice a0 n0 c0, .slice a1 n1 c1, .int .i64 (i : Int), .int .i64 (k : Int)] W fun e w' => e = .returned (.tuple #[.bool (befL hs l i k), .agg #[.int .i64 0, .int .i64 0]]) ∧ Below W.heap.size W w') := fun i k hi hk W hW => before_good W a0 n0 c0 a1 n1 c1 l hs (hl.below hW) (hh.below hW) hg i k hi hk
  have HL := hide hl; have HN := hide hn; have HG := hide hg
  clear hl hh hg hn
  go_enter Try.func5, Try.ntmps5
  go_upto_region 6 with (first
    | (go_at_call 9; (with_reducible refine Calls.mono (begun_any _) ?_); rintro e w1 ⟨rfl, hb1⟩; have HX1 := hide hb1; clear hb1)
    | (go_at_call 15; (with_reducible refine Calls.mono (unhide HTF _ (unhide HX1)) ?_); rintro e w2 ⟨rfl, hb2⟩; have HX2 := hide (Below.next (unhide HX1) hb2 (Nat.le_refl _)); clear hb2))
  clear HX1 HTF
  go_loopw [5] (fun s5 W => ∃ i : Nat, i ≤ n0 ∧ s5 = .int .i64 i ∧ Hid (Below w.heap.size w W)) (fun s5 _ => n0 - (intOf s5).toNat)
  case atStart => exact ⟨0, Nat.zero_le _, rfl, HX2⟩
  case round =>
    obtain ⟨i, hi, rfl, HXi⟩ := hrel
    clear HX2
    by_cases hlt : i < n0
    · have i3 : (i : Int) < (n0 : Int) := by omega
      have hw1 : IntKind.i64.wrap ((i : Int) + 1) = (i : Int) + 1 := wrapi (by omega) (by omega)
      go_upto_region 9 with fail
      go_loopw [6] (fun s6 W => ∃ k : Nat, i + 1 ≤ k ∧ k ≤ n0 ∧ s6 = .int .i64 k ∧ Hid (Below w.heap.size w W)) (fun s6 _ => n0 - (intOf s6).toNat)
      case atStart => exact ⟨i + 1, Nat.le_refl _, by omega, by go_num, HXi⟩
      case round =>
        obtain ⟨k, hk1, hk2, rfl, HXk⟩ := hrel
        clear HXi
        by_cases hlt2 : k < n0
        · obtain ⟨b, off, rfl, hbl, hli⟩ := (unhide HL).opens ke (unhide HN) (by omega)
          have j0 : (0 : Int) ≤ (i : Int) := by omega
          have j1 : (0 : Int) ≤ (k : Int) := by omega
          have j2 : (k : Int) < (n0 : Int) := by omega
          have hw2 : IntKind.i64.wrap ((k : Int) + 1) = (k : Int) + 1 := wrapi (by omega) (by omega)
          have hil : i < l.length := by rw [unhide HN]; exact hlt
          have hkl : k < l.length := by rw [unhide HN]; exact hlt2
          have HB1' := bef_task hs l (unhide HG).tasks hkl (show i < k by omega)
          have HB2' := bef_go hs l hkl (show i < k by omega)
          obtain ⟨⟨tki, opi, obi, vli⟩, exi⟩ : ∃ X, l.getD i ev0 = X := ⟨_, rfl⟩
          obtain ⟨⟨tkk, opk, obk, vlk⟩, exk⟩ : ∃ X, l.getD k ev0 = X := ⟨_, rfl⟩
          have HCI : Hid (∀ W, Below w.heap.size w W → _) := fun W hW => (hli.below hW hbl).ev hil exi
          have HCK : Hid (∀ W, Below w.heap.size w W → _) := fun W hW => (hli.below hW hbl).ev hkl exk
          rw [exi, exk] at HB1' HB2'
          have HB1 : Hid (tki = tkk → befL hs l i k = true) := HB1'
          have HB2 : Hid (opi = 11 → vli = tkk → befL hs l i k = true) := HB2'
          have HBA := hide (unhide HBB i k hlt hlt2)
          clear HB1' HB2' exi exk hli hil hkl HBB
          by_cases s1 : tki = tkk
          · have y1 : (tki == tkk) = true := by simpa using s1
            have HBF : Hid (∀ W, Below w.heap.size w W → Calls Try.prog 14 #[.slice (some ⟨b, off, none⟩) n0 c0, .slice a1 n1 c1, .int .i64 (i : Int), .int .i64 (k : Int)] W fun e w' => e = .returned (.tuple #[.bool true, .agg #[.int .i64 0, .int .i64 0]]) ∧ Below W.heap.size W w') := fun W hW => by have h0 := unhide HBA W hW; rwa [unhide HB1 s1] at h0
            clear s1
            go_upto_region 12 with (go_at_call 14; (with_reducible refine Calls.mono (unhide HBF _ (unhide HXk)) ?_); rintro e w3 ⟨rfl, hb3⟩; have HX3 := hide (Below.next (unhide HXk) hb3 (Nat.le_refl _)); clear hb3)
            have HX4 := hide ((unhide HX3).alloc (unhide HX3).size (.cells #[.int .i64 0, .int .i64 0] 28)); have HF4 := hide (new_block w3 (.cells #[.int .i64 0, .int .i64 0] 28))
            obtain ⟨F, eF⟩ : ∃ X, w3.heap.size = X := ⟨_, rfl⟩
            obtain ⟨W4, e4⟩ : ∃ X, w3.alloc (.cells #[.int .i64 0, .int .i64 0] 28) = X := ⟨_, rfl⟩
            rw [eF, e4] at HF4; rw [e4] at HX4; rw [eF, e4]
            clear eF e4 HX3
            obtain ⟨q0, q1, f0, f1, ql⟩ := block2 (unhide HF4)
            go_upto_region 14 with fail
            clear q0 q1 f0 f1 ql
            obtain ⟨p0, p1, -, p3⟩ := unhide HCI _ (unhide HX4)
            obtain ⟨r0, -, -, -⟩ := unhide HCK _ (unhide HX4)
            go_quiet (fail)
            have HX5 := hide (below_drewN (unhide HX4) nq)
            clear p0 p1 p3 r0
            go_wp2_with fail
            go_roundw
            case rel => exact ⟨k + 1, by omega, by omega, by go_num, HX5⟩
            case measure => simp [intOf]; omega
          · by_cases s2 : opi = 11
            · by_cases s3 : vli = tkk
              · have y1 : (tki == tkk) = false := by simpa using s1
                have y2 : (opi == 11) = true := by simpa using s2
                have y3 : (vli == tkk) = true := by simpa using s3
                have HBF : Hid (∀ W, Below w.heap.size w W → Calls Try.prog 14 #[.slice (some ⟨b, off, none⟩) n0 c0, .slice a1 n1 c1, .int .i64 (i : Int), .int .i64 (k : Int)] W fun e w' => e = .returned (.tuple #[.bool true, .agg #[.int .i64 0, .int .i64 0]]) ∧ Below W.heap.size W w') := fun W hW => by have h0 := unhide HBA W hW; rwa [unhide HB2 s2 s3] at h0
                clear s1 s2 s3
                go_upto_region 12 with (go_at_call 14; (with_reducible refine Calls.mono (unhide HBF _ (unhide HXk)) ?_); rintro e w3 ⟨rfl, hb3⟩; have HX3 := hide (Below.next (unhide HXk) hb3 (Nat.le_refl _)); clear hb3)
                have HX4 := hide ((unhide HX3).alloc (unhide HX3).size (.cells #[.int .i64 0, .int .i64 0] 28)); have HF4 := hide (new_block w3 (.cells #[.int .i64 0, .int .i64 0] 28))
                obtain ⟨F, eF⟩ : ∃ X, w3.heap.size = X := ⟨_, rfl⟩
                obtain ⟨W4, e4⟩ : ∃ X, w3.alloc (.cells #[.int .i64 0, .int .i64 0] 28) = X := ⟨_, rfl⟩
                rw [eF, e4] at HF4; rw [e4] at HX4; rw [eF, e4]
                clear eF e4 HX3
                obtain ⟨q0, q1, f0, f1, ql⟩ := block2 (unhide HF4)
                go_upto_region 14 with fail
                clear q0 q1 f0 f1 ql
                obtain ⟨p0, p1, -, p3⟩ := unhide HCI _ (unhide HX4)
                obtain ⟨r0, -, -, -⟩ := unhide HCK _ (unhide HX4)
                go_quiet (fail)
                have HX5 := hide (below_drewN (unhide HX4) nq)
                clear p0 p1 p3 r0
                go_wp2_with fail
                go_roundw
                case rel => exact ⟨k + 1, by omega, by omega, by go_num, HX5⟩
                case measure => simp [intOf]; omega
              · have y1 : (tki == tkk) = false := by simpa using s1
                have y2 : (opi == 11) = true := by simpa using s2
                have y3 : (vli == tkk) = false := by simpa using s3
                obtain ⟨bq, ebq⟩ : ∃ X, befL hs l i k = X := ⟨_, rfl⟩
                have HBF := HBA
                rw [ebq] at HBF
                clear ebq
                clear s1 s2 s3
                go_upto_region 12 with (go_at_call 14; (with_reducible refine Calls.mono (unhide HBF _ (unhide HXk)) ?_); rintro e w3 ⟨rfl, hb3⟩; have HX3 := hide (Below.next (unhide HXk) hb3 (Nat.le_refl _)); clear hb3)
                have HX4 := hide ((unhide HX3).alloc (unhide HX3).size (.cells #[.int .i64 0, .int .i64 0] 28)); have HF4 := hide (new_block w3 (.cells #[.int .i64 0, .int .i64 0] 28))
                obtain ⟨F, eF⟩ : ∃ X, w3.heap.size = X := ⟨_, rfl⟩
                obtain ⟨W4, e4⟩ : ∃ X, w3.alloc (.cells #[.int .i64 0, .int .i64 0] 28) = X := ⟨_, rfl⟩
                rw [eF, e4] at HF4; rw [e4] at HX4; rw [eF, e4]
                clear eF e4 HX3
                obtain ⟨q0, q1, f0, f1, ql⟩ := block2 (unhide HF4)
                go_upto_region 14 with fail
                clear q0 q1 f0 f1 ql
                obtain ⟨p0, p1, -, p3⟩ := unhide HCI _ (unhide HX4)
                obtain ⟨r0, -, -, -⟩ := unhide HCK _ (unhide HX4)
                go_quiet (fail)
                have HX5 := hide (below_drewN (unhide HX4) nq)
                clear p0 p1 p3 r0
                go_wp2_with fail
                go_roundw
                case rel => exact ⟨k + 1, by omega, by omega, by go_num, HX5⟩
                case measure => simp [intOf]; omega
            · have y1 : (tki == tkk) = false := by simpa using s1
              have y2 : (opi == 11) = false := by simpa using s2
              obtain ⟨bq, ebq⟩ : ∃ X, befL hs l i k = X := ⟨_, rfl⟩
              have HBF := HBA
              rw [ebq] at HBF
              clear ebq
              clear s1 s2
              go_upto_region 12 with (go_at_call 14; (with_reducible refine Calls.mono (unhide HBF _ (unhide HXk)) ?_); rintro e w3 ⟨rfl, hb3⟩; have HX3 := hide (Below.next (unhide HXk) hb3 (Nat.le_refl _)); clear hb3)
              have HX4 := hide ((unhide HX3).alloc (unhide HX3).size (.cells #[.int .i64 0, .int .i64 0] 28)); have HF4 := hide (new_block w3 (.cells #[.int .i64 0, .int .i64 0] 28))
              obtain ⟨F, eF⟩ : ∃ X, w3.heap.size = X := ⟨_, rfl⟩
              obtain ⟨W4, e4⟩ : ∃ X, w3.alloc (.cells #[.int .i64 0, .int .i64 0] 28) = X := ⟨_, rfl⟩
              rw [eF, e4] at HF4; rw [e4] at HX4; rw [eF, e4]
              clear eF e4 HX3
              obtain ⟨q0, q1, f0, f1, ql⟩ := block2 (unhide HF4)
              go_upto_region 14 with fail
              clear q0 q1 f0 f1 ql
              obtain ⟨p0, p1, -, p3⟩ := unhide HCI _ (unhide HX4)
              obtain ⟨r0, -, -, -⟩ := unhide HCK _ (unhide HX4)
              go_quiet (fail)
              have HX5 := hide (below_drewN (unhide HX4) nq)
              clear p0 p1 p3 r0
              go_wp2_with fail
              go_roundw
              case rel => exact ⟨k + 1, by omega, by omega, by go_num, HX5⟩
              case measure => simp [intOf]; omega
        · obtain rfl : k = n0 := by omega
          have j2 : ¬ (k : Int) < (k : Int) := by omega
          clear HBB
          go_wp2_with fail
          go_roundw
          case rel => exact ⟨i + 1, by omega, by go_num, HXk⟩
          case measure => simp [intOf]; omega
    · obtain rfl : i = n0 := by omega
      have i3 : ¬ (i : Int) < (i : Int) := by omega
      go_wp2_with fail
      go_ret
      exact ⟨rfl, unhide HXi⟩
theorem tasks_walk (w : World) (v0 : Value) (l : List Ev) (v1 : Value) (hs : List Int) (hl : IsL KE w v0 l) (_ml : l.length * 32 ≤ 140737488355328) (hh : IsL KI w v1 hs) (_mh : hs.length * 8 ≤ 140737488355328) :
    Calls Try.prog 5 #[v0, v1] w fun e w' => e = .returned (.bool true) ∧ Below w.heap.size w w' := by
  obtain ⟨a0, c0, rfl⟩ := hl.form
  obtain ⟨a1, c1, rfl⟩ := hh.form
  by_cases h1 : 60 < l.length
  · exact tasks_long w a0 _ c0 a1 _ c1 l hs hl hh h1
  · by_cases h2 : 100 < hs.length
    · exact tasks_many w a0 _ c0 a1 _ c1 l hs hl hh h1 h2
    · obtain ⟨⟨fc, fa⟩, hf⟩ : ∃ X, checkF hs l = X := ⟨_, rfl⟩
      by_cases hfc : fc = 0
      · exact tasks_good w a0 _ c0 a1 _ c1 l hs hl hh h1 h2 (good_of (by rw [hf]; exact hfc))
      · exact tasks_fault w a0 _ c0 a1 _ c1 l hs hl hh h1 h2 fc fa hf hfc
end Go.Proofs.Ytbnmeeabpjmcoaa
