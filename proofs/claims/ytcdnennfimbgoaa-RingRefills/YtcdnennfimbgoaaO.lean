/-
  taskmilllaw.RingOrder returns true.
-/
import Derived.Test.YtcdnennfimbgoaaN
namespace Go.Proofs.Ytcdnennfimbgoaa
open Go.RowKit

set_option maxRecDepth 100000 in
set_option maxHeartbeats 400000 in
theorem order_out (w : World) (z : Int) (h : z < 0 ∨ 256 < z) :
    Calls Try.prog 8 #[.int .i64 z] w fun e w' => e = .returned (.bool true) ∧ Below w.heap.size w w' := by
  have hnot : ∀ (x : Bool) (w : World), (Op.unary .not (.bool x)).run Try.prog w = .ok (.bool (!x)) w := fun _ _ => rfl
  by_cases h1 : z < 0
  · clear h
    go_enter Try.func8, Try.ntmps8
    go_wp2_with (go_at_call 9; refine (begun_any _).mono ?_; rintro e w1 ⟨rfl, hb1⟩; have HB1 := hide hb1; clear hb1)
    go_ret
    exact ⟨rfl, unhide HB1⟩
  · have h2 : 256 < z := by omega
    clear h
    go_enter Try.func8, Try.ntmps8
    go_wp2_with (go_at_call 9; refine (begun_any _).mono ?_; rintro e w1 ⟨rfl, hb1⟩; have HB1 := hide hb1; clear hb1)
    go_ret
    exact ⟨rfl, unhide HB1⟩

theorem below_store {w w2 : World} {R : Nat} {o o' : Obj} {x y : Value} (h : Below w.heap.size w w2) (hR : w.heap.size ≤ R) : Below w.heap.size w ((((w2.setCell ⟨R, 0, none⟩ x).setCell ⟨R, 1, none⟩ y).alloc o).alloc o') :=
  have h2 := (h.setCell (p := ⟨R, 0, none⟩) hR x).setCell (p := ⟨R, 1, none⟩) hR y
  h2.trans ((below_new2 _ o o').mono h2.size)
theorem ring_store {w2 : World} {R base n : Nat} {x y : Value} {nx : Int} {zs : List Int} {a : Option Addr} {c : Nat} {o o' : Obj} (h : w2.heap[R]? = some (.cells #[x, y] 24 (0, 0))) (ho : Own base w2 (.slice a n c) zs) (hn : n = zs.length) (hR : R < base) :
    RingAt ((((w2.setCell ⟨R, 0, none⟩ (.int .i64 nx)).setCell ⟨R, 1, none⟩ (.slice a n c)).alloc o).alloc o') R nx zs := by
  subst hn
  obtain ⟨a', c', h1, h2⟩ := RingAt.set (nx := nx) h ho hR
  exact ⟨a', c', ((below_new2 _ o o').block R (block2 h1).2.2.2.2).trans h1, h2.below (below_new2 _ o o')⟩

set_option maxRecDepth 100000 in
set_option maxHeartbeats 1000000 in
theorem order_in (w : World) (n : Nat) (hn : n ≤ 256) :
    Calls Try.prog 8 #[.int .i64 n] w fun e w' => e = .returned (.bool true) ∧ Below w.heap.size w w' := by
  have hnot : ∀ (x : Bool) (w : World), (Op.unary .not (.bool x)).run Try.prog w = .ok (.bool (!x)) w := fun _ _ => rfl
  have h1 : ¬ (n : Int) < 0 := by omega
  have h2 : ¬ (256 : Int) < (n : Int) := by omega
  go_enter Try.func8, Try.ntmps8
  go_wp2_with (go_at_call 9; refine (begun_any _).mono ?_; rintro e w1 ⟨rfl, hb1⟩; have HB1 := hide hb1; clear hb1)
  have hR1 : w.heap.size ≤ w1.heap.size := (unhide HB1).size
  obtain ⟨R, hR⟩ : ∃ R, w1.heap.size = R := ⟨_, rfl⟩
  have HS : Hid (RingAt (w1.alloc (.cells #[.int .i64 0, .slice none 0 0] 24)) R 0 (upL 0) ∧ Below w.heap.size w (w1.alloc (.cells #[.int .i64 0, .slice none 0 0] 24))) := by
    refine ⟨⟨none, 0, ?_, ⟨rfl, Or.inl ⟨rfl, rfl⟩⟩, fun a n c e => by cases e; exact Nat.le_refl _⟩, (unhide HB1).alloc hR1 _⟩
    rw [← hR]
    exact (MapKept.heap_alloc w1 _).1
  rw [hR] at hR1 ⊢
  clear HB1 hR
  go_loopw [4] (fun i wr => ∃ j : Nat, j ≤ n ∧ i = .int .i64 ((j : Int) + 1) ∧ RingAt wr R 0 (upL j) ∧ Below w.heap.size w wr) (fun i _ => n + 1 - (intOf i).toNat)
  case atStart => exact ⟨0, Nat.zero_le _, rfl, (unhide HS).1, (unhide HS).2⟩
  case round =>
    clear HS
    obtain ⟨j, hj, rfl, ⟨a, c, hblk, hlist⟩, hb⟩ := hrel
    rw [upL_length] at hblk hlist
    obtain ⟨r0, r1, f0, f1, hlt0⟩ := block2 hblk
    have HBL := hide hblk; have HB := hide hb
    by_cases hlt : j < n
    · have HP := hide (put_last wr 0 _ (upL j) ((j : Int) + 1) hlist.1 (by rw [upL_length]; unfold maxLen; omega) (put_good (good_up (by omega)) (by omega) (by omega) (fun h => by have := (upL_mem.1 h).2; omega)) (upL j ++ [(j : Int) + 1]) [] (fun W h => hpl_room _ _ _ (by rw [upL_length]; omega) (by omega) W h))
      rw [← upL_succ, upL_length] at HP
      clear hblk hlist hb
      have i1 : (j : Int) + 1 ≤ (n : Int) := by omega
      go_wp2_with (go_at_call 12; refine (unhide HP).mono ?_; rintro e w2 ⟨a1, c1, a2, c2, rfl, ho1, ho2, hb2⟩; have hbl2 := (hb2.block R hlt0).trans (unhide HBL); clear r0 r1 f0 f1; obtain ⟨r0, r1, f0, f1, hlt2⟩ := block2 hbl2; have HBL2 := hide hbl2; have HB2 := hide ((unhide HB).trans (hb2.mono (unhide HB).size)); have HO1 := hide ho1; clear ho1 ho2 hb2 hbl2)
      go_roundw
      case rel =>
        refine ⟨j + 1, by omega, by go_num, ?_, ?_⟩
        · exact ring_store (unhide HBL2) (unhide HO1) (upL_length _).symm hlt0
        · exact below_store (unhide HB2) hR1
      case measure => simp [intOf]; omega
    · obtain rfl : j = n := by omega
      have HS : Hid (RingAt wr R 0 ((upL j).drop 0)) := by
        rw [List.drop_zero]
        exact ⟨a, c, by rw [upL_length]; exact hblk, by rw [upL_length]; exact hlist⟩
      clear hblk hlist hb r0 r1 f0 f1 HBL
      have i1 : ¬ (j : Int) + 1 ≤ (j : Int) := by omega
      rename_i wr0
      go_wp2_with fail
      clear i1
      go_loopw [8] (fun i wr => ∃ k : Nat, k ≤ j ∧ i = .int .i64 ((k : Int) + 1) ∧ RingAt wr R 0 ((upL j).drop k) ∧ Below w.heap.size w wr) (fun i _ => j + 1 - (intOf i).toNat)
      case atStart => exact ⟨0, Nat.zero_le _, rfl, unhide HS, unhide HB⟩
      case round =>
        clear HS HB
        obtain ⟨k, hk, rfl, ⟨a, c, hblk, hlist⟩, hb⟩ := hrel
        rw [List.length_drop, upL_length] at hblk hlist
        obtain ⟨r0, r1, f0, f1, hlt0⟩ := block2 hblk
        have HBL := hide hblk; have HB := hide hb
        by_cases hlt : k < j
        · obtain ⟨m, hm⟩ : ∃ m, j - k = m + 1 := ⟨j - k - 1, by omega⟩
          rw [hm] at hblk hlist r1
          rw [hm] at HBL
          have hd := upL_drop hlt
          have hlen : ((upL j).drop (k + 1)).length = m := by rw [List.length_drop, upL_length]; omega
          have hgood := good_iff.2 ((good_up hn).drop k)
          rw [hd] at hlist hgood
          obtain ⟨b, off, c', e, _, _⟩ := IsInts.at hlist.1 (by simp)
          rw [List.length_cons, hlen] at e
          cases e
          have HT := hide (rtake_first wr b off c m ((k : Int) + 1) ((upL j).drop (k + 1)) hlen hlist.1 (hlist.2 _ _ _ rfl) (by omega) hgood)
          have HLE := hide hlen
          clear hblk hlist hb hd hgood hlen
          have i1 : (k : Int) + 1 ≤ (j : Int) := by omega
          go_wp2_with (go_at_call 21; refine (unhide HT).mono ?_; rintro e w2 ⟨a1, c1, rfl, ho1, hb2⟩; have hbl2 := (hb2.block R hlt0).trans (unhide HBL); clear r0 r1 f0 f1; obtain ⟨r0, r1, f0, f1, hlt2⟩ := block2 hbl2; have HBL2 := hide hbl2; have HB2 := hide ((unhide HB).trans (hb2.mono (unhide HB).size)); have HO1 := hide ho1; clear ho1 hb2 hbl2)
          go_roundw
          case rel => exact ⟨k + 1, by omega, by go_num, ring_store (unhide HBL2) (unhide HO1) (unhide HLE).symm hlt0, below_store (unhide HB2) hR1⟩
          case measure => simp [intOf]; omega
        · obtain rfl : k = j := by omega
          rw [Nat.sub_self] at hblk hlist r1
          have hd : (upL k).drop k = [] := List.drop_eq_nil_of_le (by rw [upL_length]; omega)
          rw [hd] at hlist
          have HT := hide (rtake_none wr a c hlist.1)
          have i1 : ¬ (k : Int) + 1 ≤ (k : Int) := by omega
          clear hblk hlist hb hd HBL
          go_wp2_with (go_at_call 21; refine (unhide HT).mono ?_; rintro e w2 ⟨rfl, hb2⟩; have HB2 := hide ((unhide HB).trans (hb2.mono (unhide HB).size)); clear r0 r1 f0 f1 hb2)
          have HT5 := hide (cells_new (w2.alloc (.cells #[.int .i64 0, .slice none 0 0] 24)) (.int .i64 6) (.int .i64 0))
          have HBB := hide ((unhide HB2).trans ((below_new2 w2 (.cells #[.int .i64 0, .slice none 0 0] 24) (.cells #[.int .i64 6, .int .i64 0] 28)).mono (unhide HB2).size))
          have HZ : Hid (w2.heap.size + 1 < ((w2.alloc (.cells #[.int .i64 0, .slice none 0 0] 24)).alloc (.cells #[.int .i64 6, .int .i64 0] 28)).heap.size) := by simp [Hid]
          rw [World.size_alloc] at HT5
          obtain ⟨Wb, hWb⟩ : ∃ W, (w2.alloc (.cells #[.int .i64 0, .slice none 0 0] 24)).alloc (.cells #[.int .i64 6, .int .i64 0] 28) = W := ⟨_, rfl⟩
          rw [hWb] at HT5 HBB HZ ⊢
          clear hWb HB2
          have HSS : Hid (∀ W, Below Wb.heap.size Wb W → W.cell? ⟨w2.heap.size + 1, 0, none⟩ = some (.int .i64 6) ∧ W.cell? ⟨w2.heap.size + 1, 1, none⟩ = some (.int .i64 0) ∧ Below Wb.heap.size Wb W) := fun W hW =>
            ⟨(hW.cell (p := ⟨w2.heap.size + 1, 0, none⟩) (unhide HZ)).trans (unhide HT5).1, (hW.cell (p := ⟨w2.heap.size + 1, 1, none⟩) (unhide HZ)).trans (unhide HT5).2, hW⟩
          obtain ⟨t0, t1⟩ := unhide HT5
          go_region_held3 (fun W => W.cell? ⟨w2.heap.size + 1, 0, none⟩ = some (.int .i64 6) ∧ W.cell? ⟨w2.heap.size + 1, 1, none⟩ = some (.int .i64 0) ∧ Below Wb.heap.size Wb W)
            (first | with_reducible exact unhide HSS _ (Below.refl _ _).drew | with_reducible exact unhide HSS _ (unhide HB6))
            (first | (go_at_call 15; refine (f_any _ _ _).mono ?_; rintro e w6 ⟨rfl, hb6⟩; have HB6 : Hid (Below Wb.heap.size Wb w6) := Below.trans (B := Wb.heap.size) (by go_split_ands; assumption) (hb6.mono (Below.size (B := Wb.heap.size) (by go_split_ands; assumption))); clear hb6))
          all_goals go_wp2_with fail
          all_goals go_ret
          all_goals exact ⟨rfl, (unhide HBB).trans ((unhide HB6).mono (unhide HBB).size)⟩

theorem order_walk (w : World) (z : Int) : Calls Try.prog 8 #[.int .i64 z] w fun e w' => e = .returned (.bool true) ∧ Below w.heap.size w w' := by
  by_cases h : z < 0 ∨ 256 < z
  · exact order_out w z h
  · obtain ⟨n, rfl⟩ : ∃ n : Nat, z = n := ⟨z.toNat, by omega⟩
    exact order_in w n (by omega)
end Go.Proofs.Ytcdnennfimbgoaa
