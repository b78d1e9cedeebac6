/-
  taskmilllaw.RingDrains returns true.
-/
import Derived.Test.YtcdnennfimbgoabDa
namespace Go.Proofs.Ytcdnennfimbgoab
open Go.RowKit

set_option maxRecDepth 100000 in
set_option maxHeartbeats 1000000 in
theorem drains_out (w : World) (n p : Int) (h : n < 0 ∨ 300 < n ∨ p < 1 ∨ 8 < p) :
    Calls Try.prog 3 #[.int .i64 n, .int .i64 p] w fun e w' => e = .returned (.bool true) ∧ Below w.heap.size w w' := by
  have hnot : ∀ (x : Bool) (w : World), (Op.unary .not (.bool x)).run Try.prog w = .ok (.bool (!x)) w := fun _ _ => rfl
  by_cases h1 : n < 0
  · clear h
    go_enter Try.func3, Try.ntmps3
    go_wp2_with (go_at_call 5; refine (begun_any _).mono ?_; rintro e w1 ⟨rfl, hb1⟩; have HB1 := hide hb1; clear hb1)
    go_ret
    exact ⟨rfl, unhide HB1⟩
  · by_cases h2 : 300 < n
    · clear h
      go_enter Try.func3, Try.ntmps3
      go_wp2_with (go_at_call 5; refine (begun_any _).mono ?_; rintro e w1 ⟨rfl, hb1⟩; have HB1 := hide hb1; clear hb1)
      go_ret
      exact ⟨rfl, unhide HB1⟩
    · by_cases h3 : p < 1
      · clear h
        go_enter Try.func3, Try.ntmps3
        go_wp2_with (go_at_call 5; refine (begun_any _).mono ?_; rintro e w1 ⟨rfl, hb1⟩; have HB1 := hide hb1; clear hb1)
        go_ret
        exact ⟨rfl, unhide HB1⟩
      · have h4 : 8 < p := by omega
        clear h
        go_enter Try.func3, Try.ntmps3
        go_wp2_with (go_at_call 5; refine (begun_any _).mono ?_; rintro e w1 ⟨rfl, hb1⟩; have HB1 := hide hb1; clear hb1)
        go_ret
        exact ⟨rfl, unhide HB1⟩

def sliceLen : Value → Nat
  | .slice _ n _ => n
  | _ => 0

theorem ring_store2 {w3 : World} {R base n : Nat} {x y : Value} {nx : Int} {zs : List Int} {a : Option Addr} {c : Nat} {o o' : Obj} (h : w3.heap[R]? = some (.cells #[x, y] 25 (0, 0))) (ho : Own base w3 (.slice a n c) zs) (hn : n = zs.length) (hR : R < base) :
    RingAt ((((w3.setCell ⟨R, 0, none⟩ (.int .i64 nx)).setCell ⟨R, 1, none⟩ (.slice a n c)).alloc o).alloc o') R nx zs := by
  subst hn
  obtain ⟨a', c', h1, h2⟩ := RingAt.set (nx := nx) h ho hR
  exact ⟨a', c', ((below_new2 _ o o').block R (block2 h1).2.2.2.2).trans h1, h2.below (below_new2 _ o o')⟩
theorem below_store2 {B : Nat} {w w3 : World} {R : Nat} {o o' : Obj} {x y : Value} (h : Below B w w3) (hB : B ≤ w3.heap.size) (hR : B ≤ R) : Below B w ((((w3.setCell ⟨R, 0, none⟩ x).setCell ⟨R, 1, none⟩ y).alloc o).alloc o') :=
  have h2 := (h.setCell (p := ⟨R, 0, none⟩) hR x).setCell (p := ⟨R, 1, none⟩) hR y
  h2.trans ((below_new2 _ o o').mono (Nat.le_trans hB (((Below.refl 0 w3).setCell (p := ⟨R, 0, none⟩) (Nat.zero_le _) x).setCell (p := ⟨R, 1, none⟩) (Nat.zero_le _) y).size))

set_option maxRecDepth 100000 in
set_option maxHeartbeats 4000000 in
theorem drains_in (w : World) (n p : Nat) (hn : n ≤ 300) (hp1 : 1 ≤ p) (hp8 : p ≤ 8) :
    Calls Try.prog 3 #[.int .i64 n, .int .i64 p] w fun e w' => e = .returned (.bool true) ∧ Below w.heap.size w w' := by
  have hnot : ∀ (x : Bool) (w : World), (Op.unary .not (.bool x)).run Try.prog w = .ok (.bool (!x)) w := fun _ _ => rfl
  have h1 : ¬ (n : Int) < 0 := by omega
  have h2 : ¬ (300 : Int) < (n : Int) := by omega
  have h3 : ¬ (p : Int) < 1 := by omega
  have h4 : ¬ (8 : Int) < (p : Int) := by omega
  have HRE : Hid (∀ (j m k : Nat), (n - j = m) → goesN m p = k → ∀ W vg, Own w.heap.size W vg ((upL n).drop j) → Calls Try.prog 6 #[.agg #[.int .i64 0, .slice none 0 0], vg, .int .i64 p] W fun e w' => ∃ a1 c1 a2 c2, e = .returned (.tuple #[.agg #[.int .i64 0, .slice a1 k c1], .slice a2 (m - k) c2, .agg #[.int .i64 0, .int .i64 0]]) ∧ Own W.heap.size w' (.slice a1 k c1) (((upL n).drop j).take k) ∧ Own W.heap.size w' (.slice a2 (m - k) c2) (((upL n).drop j).drop k) ∧ Below W.heap.size W w') := fun j m k hm hk W vg hW => by
    have hl : ((upL n).drop j).length = m := by rw [List.length_drop, upL_length, hm]
    have := refill_any W 0 (.slice none 0 0) [] (p : Int) ⟨rfl, Or.inl ⟨rfl, rfl⟩⟩ vg ((upL n).drop j) hW.list.1 hW.list.2 hW.form (by rw [refill_up hn (by omega) (by omega)])
    rw [goes_eq hl, hk, hl, List.length_nil, Nat.zero_add, List.nil_append] at this
    exact this
  go_enter Try.func3, Try.ntmps3
  go_wp2_with (go_at_call 5; refine (begun_any _).mono ?_; rintro e w1 ⟨rfl, hb1⟩; have HB1 := hide hb1; clear hb1)
  go_loopw [5, 6] (fun s5 s6 wr => ∃ (j : Nat) (a : Option Addr) (c : Nat), s5 = .slice a j c ∧ s6 = .int .i64 ((j : Int) + 1) ∧ j ≤ n ∧ Own w.heap.size wr (.slice a j c) (upL j) ∧ Below w.heap.size w wr) (fun _ s6 _ => n + 1 - (intOf s6).toNat)
  case atStart => exact ⟨0, none, 0, rfl, rfl, Nat.zero_le _, own_nil _ _, unhide HB1⟩
  case round =>
    clear HB1
    obtain ⟨j, a, c, rfl, rfl, hj, hown, hb⟩ := hrel
    have HO := hide hown; have HB := hide hb
    clear hown hb
    by_cases hlt : j < n
    · have i1 : (j : Int) + 1 ≤ (n : Int) := by omega
      have HUL : Hid ((upL j).length = j) := upL_length j
      go_wp2_with (at_builtin; refine wpList_append_ints rfl (.tmp 36) (.tmp 38) rfl w.heap.size (.slice a j c) (upL j) rfl (Own.below (unhide HO) ((Below.refl _ _).alloc (Nat.le_refl _) _)) _ [(j : Int) + 1] rfl (ints_new wr ((j : Int) + 1) _) (by rw [unhide HUL]; simp; omega) (Nat.le_trans (unhide HB).size (by simp)) ?_; intro a5 c5 w5 ho5 hg5; have HB5 := hide (((unhide HB).alloc (unhide HB).size _).grown hg5 (Nat.le_trans (unhide HB).size (by simp)) (fun k hk => ((unhide HO).lt k hk).1)); rw [upL_length] at ho5 ⊢; have HO5 := hide ho5; clear ho5 hg5)
      go_roundw
      case rel => exact ⟨j + 1, a5, c5, rfl, by go_num, by omega, by rw [upL_succ]; exact unhide HO5, unhide HB5⟩
      case measure => simp [intOf]; omega
    · obtain rfl : j = n := by omega
      have i1 : ¬ (j : Int) + 1 ≤ (j : Int) := by omega
      go_wp2_with fail
      clear i1
      go_loopw [5, 7, 8] (fun s5 s7 s8 wr => ∃ (i r f m : Nat) (a : Option Addr) (c : Nat), s5 = .slice a m c ∧ s7 = .int .i64 r ∧ s8 = .int .i64 ((i : Int) + 1) ∧ i ≤ j ∧ j - i = m ∧ m ≤ f ∧ r + roundsF f m p ≤ 10 * p + 20 ∧ Own w.heap.size wr (.slice a m c) ((upL j).drop i) ∧ Below w.heap.size w wr) (fun s5 _ _ _ => sliceLen s5)
      case atStart => exact ⟨0, 0, 301, j, a, c, rfl, rfl, rfl, Nat.zero_le _, rfl, by omega, by rw [Nat.zero_add]; exact rounds_le hn hp1 hp8, by rw [List.drop_zero]; exact unhide HO, unhide HB⟩
      case round =>
        clear HO HB
        obtain ⟨i, r, f, m, a, c, rfl, rfl, rfl, hi, hm, hmf, hr, hown, hb⟩ := hrel
        have HO := hide hown; have HB := hide hb
        clear hown hb
        cases m with
        | zero =>
          obtain rfl : i = j := by omega
          go_wp2_with fail
          go_ret
          exact ⟨rfl, unhide HB⟩
        | succ m =>
          obtain ⟨k, hk⟩ : ∃ k, goesN (m + 1) p = k := ⟨_, rfl⟩
          have hkp : 0 < k := by rw [← hk]; exact goes_pos (by omega)
          have hkl : k ≤ m + 1 ∧ k ≤ 128 := by rw [← hk]; exact goes_le
          have hrg := rounds_go (f := f) (m := m + 1) (p := p) (by omega) (by omega)
          obtain ⟨mk, hmk⟩ : ∃ mk, m + 1 - k = mk := ⟨_, rfl⟩
          have HRC := hide (unhide HRE i (m + 1) k hm hk wr _ (unhide HO))
          rw [hk, hmk] at hrg
          rw [hmk] at HRC
          have HRG : Hid ((r + 1) + roundsF (f - 1) mk p ≤ 10 * p + 20) := by show _ ≤ _; omega
          have HMK := hide hmk
          have g1 : (0 : Int) < (m : Int) + 1 := by omega
          have g2 : ¬ 10 * (p : Int) + 20 < (r : Int) + 1 := by omega
          have g3 : ¬ (m : Int) + 1 ≤ (mk : Int) := by omega
          have wr1 : IntKind.i64.wrap ((r : Int) + 1) = (r : Int) + 1 := by simp [IntKind.wrap, IntKind.bits, IntKind.signed]; omega
          have wp1 : IntKind.i64.wrap (10 * (p : Int)) = 10 * (p : Int) := by simp [IntKind.wrap, IntKind.bits, IntKind.signed]; omega
          have wp2 : IntKind.i64.wrap (10 * (p : Int) + 20) = 10 * (p : Int) + 20 := by simp [IntKind.wrap, IntKind.bits, IntKind.signed]; omega
          have hik : i + k ≤ j := by omega
          clear hrg hr hk hmk
          go_upto_region 17 with (go_at_call 6; refine (unhide HRC).mono ?_; rintro e w2 ⟨a1, c1, a2, c2, rfl, ho1, ho2, hb2⟩; have HO1 := hide ho1; have HO2 := hide (ho2.base (unhide HB).size); have HB2 := hide ((unhide HB).trans (hb2.mono (unhide HB).size)); clear ho1 ho2 hb2)
          have HLK : Hid ((((upL j).drop i).take k).length = k) := by show _ = _; rw [List.length_take, List.length_drop, upL_length]; omega
          have RA : Hid (RingAt ((w2.alloc (.cells #[.int .i64 0, .slice a1 k c1] 25)).alloc (.cells #[.int .i64 0, .int .i64 0] 27)) w2.heap.size 0 (((upL j).drop i).take k)) := by
            refine ⟨a1, c1, ?_, ?_⟩
            · rw [unhide HLK]
              exact (Below.heap_alloc _ _ _ (by simp)).trans (MapKept.heap_alloc w2 _).1
            · rw [unhide HLK]
              exact IsList.below (unhide HO1).list (below_new2 w2 _ _)
          have T11 := hide (cells_new (w2.alloc (.cells #[.int .i64 0, .slice a1 k c1] 25)) (.int .i64 0) (.int .i64 0))
          have B3 := hide (below_new2 w2 (.cells #[.int .i64 0, .slice a1 k c1] 25) (.cells #[.int .i64 0, .int .i64 0] 27))
          rw [World.size_alloc] at T11
          obtain ⟨W3, eW3⟩ : ∃ W, (w2.alloc (.cells #[.int .i64 0, .slice a1 k c1] 25)).alloc (.cells #[.int .i64 0, .int .i64 0] 27) = W := ⟨_, rfl⟩
          obtain ⟨T, eT⟩ : ∃ T, w2.heap.size = T := ⟨_, rfl⟩
          rw [eW3, eT] at RA T11 B3
          rw [eW3, eT]
          have HTW : Hid (w2.heap.size = T) := eT
          clear eW3 eT HO1 HRC
          obtain ⟨t0, t1⟩ := unhide T11
          go_wp2_with fail
          clear t0 t1
          go_loopw [8] (fun s8 wr3 => ∃ i3 : Nat, i3 ≤ k ∧ s8 = .int .i64 (((i + i3 : Nat) : Int) + 1) ∧ RingAt wr3 T 0 ((((upL j).drop i).take k).drop i3) ∧ Below T w2 wr3) (fun s8 _ => j + 2 - (intOf s8).toNat)
          case atStart => exact ⟨0, Nat.zero_le _, rfl, by rw [List.drop_zero]; exact unhide RA, unhide B3⟩
          case round =>
            clear RA B3
            obtain ⟨i3, hi3, rfl, ⟨a3, c3, hblk, hlist⟩, hb⟩ := hrel
            rw [List.length_drop, unhide HLK] at hblk hlist
            obtain ⟨r0, r1, f0, f1, hlt0⟩ := block2 hblk
            have HBL := hide hblk; have HB3 := hide hb
            by_cases hlt : i3 < k
            · obtain ⟨m3, hm3⟩ : ∃ m3, k - i3 = m3 + 1 := ⟨k - i3 - 1, by omega⟩
              rw [hm3] at hblk hlist r1
              rw [hm3] at HBL
              have hd := up_take (n := j) (j := i) (k := k) (i := i3) hik hlt
              have hlen : ((((upL j).drop i).take k).drop (i3 + 1)).length = m3 := by rw [List.length_drop, unhide HLK]; omega
              have hgood := good_iff.2 (up_good (n := j) (j := i) (k := k) (i := i3) (by omega))
              rw [hd] at hlist hgood
              obtain ⟨b, off, c', e, _, _⟩ := IsInts.at hlist.1 (by simp)
              rw [List.length_cons, hlen] at e
              cases e
              have HT := hide (rtake_first wr b off c3 m3 (((i + i3 : Nat) : Int) + 1) ((((upL j).drop i).take k).drop (i3 + 1)) hlen hlist.1 (hlist.2 _ _ _ rfl) (by omega) hgood)
              have HLE := hide hlen
              obtain ⟨ii, hii⟩ : ∃ ii, i + i3 = ii := ⟨_, rfl⟩
              rw [hii] at HT ⊢
              have HII := hide hii
              have hiin : ii < j := by omega
              clear hblk hlist hb hd hgood hlen hii
              have k1 : (0 : Int) < (m3 : Int) + 1 := by omega
              have k2 : (((ii : Int) + 1) != ((ii : Int) + 1)) = false := by simp
              have k3 : IntKind.i64.wrap ((ii : Int) + 1 + 1) = (ii : Int) + 1 + 1 := by simp [IntKind.wrap, IntKind.bits, IntKind.signed]; omega
              go_wp2_with (go_at_call 7; refine (unhide HT).mono ?_; rintro e w3 ⟨a4, c4, rfl, ho4, hb4⟩; have hbl4 := (hb4.block T hlt0).trans (unhide HBL); clear r0 r1 f0 f1; obtain ⟨r0, r1, f0, f1, hlt4⟩ := block2 hbl4; have HBL4 := hide hbl4; have HB4 := hide ((unhide HB3).trans (hb4.mono (Nat.le_of_lt hlt0))); have HO4 := hide ho4; clear ho4 hb4 hbl4)
              go_roundw
              case rel => exact ⟨i3 + 1, by omega, by have := unhide HII; go_num, ring_store2 (unhide HBL4) (unhide HO4) (unhide HLE).symm hlt0, below_store2 (unhide HB4) (Nat.le_of_lt hlt4) (Nat.le_refl _)⟩
              case measure => simp [intOf]; omega
            · obtain rfl : i3 = k := by omega
              rw [Nat.sub_self] at r1
              clear hblk hlist hb HBL
              go_wp2_with fail
              go_roundw
              case rel =>
                have hT := unhide HTW
                have hb2 : Below w2.heap.size w2 wr := by rw [hT]; exact unhide HB3
                refine ⟨i + i3, r + 1, f - 1, mk, a2, c2, rfl, by go_num, rfl, hik, by have := unhide HMK; omega, by have := unhide HMK; omega, unhide HRG, ?_, (unhide HB2).trans (hb2.mono (unhide HB2).size)⟩
                rw [← up_part]
                exact (unhide HO2).below hb2
              case measure => have := unhide HMK; simp [sliceLen]; omega

theorem drains_walk (w : World) (n p : Int) : Calls Try.prog 3 #[.int .i64 n, .int .i64 p] w fun e w' => e = .returned (.bool true) ∧ Below w.heap.size w w' := by
  by_cases h : n < 0 ∨ 300 < n ∨ p < 1 ∨ 8 < p
  · exact drains_out w n p h
  · obtain ⟨n', rfl⟩ : ∃ k : Nat, n = k := ⟨n.toNat, by omega⟩
    obtain ⟨p', rfl⟩ : ∃ k : Nat, p = k := ⟨p.toNat, by omega⟩
    exact drains_in w n' p' (by omega) (by omega) (by omega)
end Go.Proofs.Ytcdnennfimbgoab
