/-
  taskmilllaw.WaitOrder returns true.
-/
import Derived.Test.YtjlcfdhghohccaaU
namespace Go.Proofs.Ytjlcfdhghohccaa
open Go.RowKit

set_option maxRecDepth 100000 in
set_option maxHeartbeats 1000000 in
theorem order_long (w : World) (at' : Int) (a : Option Addr) (n c : Nat) (hl : 200 < n) (hm : n ≤ maxLen) :
    Calls Try.prog 6 #[.int .i64 at', .slice a n c] w fun e w' => e = .returned (.bool true) ∧ Below w.heap.size w w' := by
  have hnot : ∀ (x : Bool) (w : World), (Op.unary .not (.bool x)).run Try.prog w = .ok (.bool (!x)) w := fun _ _ => rfl
  unfold maxLen at hm
  have h1 : (200 : Int) < (n : Int) := by omega
  go_enter Try.func6, Try.ntmps6
  go_wp2_with (go_at_call 8; refine (begun_any _).mono ?_; rintro e w1 ⟨rfl, hb1⟩; have HX1 := hide hb1; clear hb1)
  go_ret
  exact ⟨rfl, unhide HX1⟩

/-- What holds ahead of the round j. -/
structure OrdInv (at' : Int) (j : Nat) (ls : List Ln) (mine : List Int) : Prop where
  good : Good ls
  mine : tasksL at' ls = mine
  high : ∀ t ∈ waitL ls, t ≤ (j : Int)
  few : (waitL ls).length ≤ j
theorem OrdInv.add {at' : Int} {j : Nat} {ls : List Ln} {mine : List Int} (h : OrdInv at' j ls mine) (hj : j < 1000) (x : Int) : addF ls ((j : Int) + 1) = (0, 0) ∧ Good (addL ls x ((j : Int) + 1) false) ∧ OrdInv at' (j + 1) (addL ls x ((j : Int) + 1) false) (if at' = x then mine ++ [(j : Int) + 1] else mine) := by
  have hn : (j : Int) + 1 ∉ waitL ls := fun h2 => by have := h.high _ h2; omega
  have hf := h.few
  obtain ⟨h3, h4⟩ := add_good h.good x (t := (j : Int) + 1) false hn (by omega) (by omega)
  refine ⟨addF_good h.good hn (by omega) (by omega), h3, h3, ?_, fun t ht => ?_, ?_⟩
  · rw [add_tasks h.good]
    split
    · rename_i e; subst e; rw [h.mine]; simp
    · exact h.mine
  · rcases List.mem_cons.1 (h4.mem_iff.1 ht) with rfl | ht
    · omega
    · have := h.high t ht; omega
  · rw [h4.length_eq, List.length_cons]; omega
theorem OrdInv.taken {at' : Int} {j : Nat} {ls : List Ln} {mine : List Int} (h : OrdInv at' j ls mine) {x : Int} (hx : at' ≠ x) : OrdInv at' j (takenL x 1 ls) mine := by
  obtain ⟨h3, h4⟩ := taken_good h.good x 1
  refine ⟨h3, ?_, fun t ht => h.high t (h4.subset ht), Nat.le_trans h4.length_le h.few⟩
  rw [taken_tasks h.good, if_neg hx]
  exact h.mine
theorem first_one {at' : Int} {ls : List Ln} {t : Int} {r : List Int} (h : tasksL at' ls = t :: r) : firstL at' 1 ls = [t] := by
  unfold firstL
  rw [h, takeN_one, if_neg (by simp)]
  rfl
theorem first_none {at' : Int} {ls : List Ln} (h : tasksL at' ls = []) : firstL at' 1 ls = [] := by
  unfold firstL
  rw [h]
  rfl
theorem taken_one {at' : Int} {ls : List Ln} {t : Int} {r : List Int} (hg : Good ls) (h : tasksL at' ls = t :: r) : tasksL at' (takenL at' 1 ls) = r := by
  rw [taken_tasks hg, if_pos rfl, h, takeN_one, if_neg (by simp)]
  rfl

set_option maxRecDepth 100000 in
set_option maxHeartbeats 8000000 in
theorem order_ok (w : World) (at' : Int) (a : Option Addr) (n c : Nat) (zs : List Int) (hl : zs.length = n) (h : IsInts w (.slice a n c) zs) (hn : n ≤ 200) :
    Calls Try.prog 6 #[.int .i64 at', .slice a n c] w fun e w' => e = .returned (.bool true) ∧ Below w.heap.size w w' := by
  have hnot : ∀ (x : Bool) (w : World), (Op.unary .not (.bool x)).run Try.prog w = .ok (.bool (!x)) w := fun _ _ => rfl
  have h1 : ¬ (200 : Int) < (n : Int) := by omega
  have HA : Hid (0 < n → ∃ b off, a = some ⟨b, off, none⟩ ∧ b < w.heap.size ∧ ∀ j, j < n → w.cell? ⟨b, off + j, none⟩ = some (.int .i64 (zs.getD j 0))) := fun hp => by
    obtain ⟨b, off, c', e, hb, hc⟩ := h.at (by omega)
    rw [hl] at e
    cases e
    exact ⟨b, off, rfl, hb, fun j hj => hc j (by omega)⟩
  clear h
  go_enter Try.func6, Try.ntmps6
  go_wp2_with (go_at_call 8; refine (begun_any _).mono ?_; rintro e w1 ⟨rfl, hb1⟩; have HX1 := hide hb1; clear hb1)
  go_loopw [5, 6, 7, 8] (fun s5 s6 s7 s8 wr => ∃ (j : Nat) (a5 : Option Addr) (n5 c5 : Nat) (a7 : Option Addr) (n7 c7 : Nat) (ls : List Ln) (mine : List Int), j ≤ n ∧ s5 = .slice a5 n5 c5 ∧ s6 = .int .i64 j ∧ s7 = .slice a7 n7 c7 ∧ s8 = .int .i64 j ∧ IsLs wr (.slice a5 n5 c5) ls ∧ Own w.heap.size wr (.slice a7 n7 c7) mine ∧ OrdInv at' j ls mine ∧ mine.length ≤ j ∧ Below w.heap.size w wr) (fun _ _ _ s8 _ => n - (intOf s8).toNat)
  case atStart => exact ⟨0, none, 0, 0, some ⟨w1.heap.size, 0, none⟩, 0, 0, [], [], Nat.zero_le _, rfl, rfl, rfl, rfl, ls_nil _, Own.base (base := w1.heap.size) (owns_empty w1 3 1) (unhide HX1).size, ⟨good_nil, rfl, fun t ht => by simp [waitL] at ht, by simp [waitL]⟩, by simp, (unhide HX1).alloc (unhide HX1).size _⟩
  case round =>
    clear HX1
    obtain ⟨j, a5, n5, c5, a7, n7, c7, ls, mine, hj, rfl, rfl, rfl, rfl, hls, hom, hinv, hml, hnx⟩ := hrel
    by_cases hlt : j < n
    · obtain ⟨b, off, rfl, hb, hc⟩ := unhide HA (by omega)
      have k0 := (hnx.cell (p := ⟨b, off + j, none⟩) hb).trans (hc j hlt)
      obtain ⟨z, ez⟩ : ∃ z, zs.getD j 0 = z := ⟨_, rfl⟩
      rw [ez] at k0
      have i0 : (0 : Int) ≤ (j : Int) := by omega
      have i1 : (j : Int) < (n : Int) := by omega
      have j1 : IntKind.i64.wrap ((j : Int) + 1) = (j : Int) + 1 := by simp [IntKind.wrap, IntKind.bits, IntKind.signed]; omega
      have HAD : Hid (∀ x : Int, Calls Try.prog 12 #[.slice a5 n5 c5, .int .i64 x, .int .i64 ((j : Int) + 1), .bool false] wr fun e w' => ∃ a' n' c', e = .returned (.tuple #[.slice a' n' c', .agg #[.int .i64 0, .int .i64 0]]) ∧ FreshL wr.heap.size w' (.slice a' n' c') (addL ls x ((j : Int) + 1) false) ∧ Below wr.heap.size wr w') := fun x => by
        refine (add_ok wr a5 n5 c5 x ((j : Int) + 1) false ls hls (hinv.add (by omega) x).1 hinv.good).mono ?_
        rintro e w' ⟨a', c', rfl, h2, h3⟩
        exact ⟨a', _, c', rfl, h2, h3⟩
      have hmn : mine.length = n7 := by obtain ⟨_, _, e⟩ := hom.form; cases e; rfl
      have HX := hide hnx; have HOM := hide hom; have HINV := hide hinv; have HMN := hide hmn
      clear hnx hc hb hls hom hinv ez hmn HA
      by_cases hz : z = 0
      · subst hz
        go_upto_region 16 with (go_at_call 12; refine (unhide HAD _).mono ?_; rintro e w2 ⟨a2, n2, c2, rfl, hf2, hb2⟩; have HF2 := hide hf2; have HB2 := hide hb2; clear hf2 hb2 k0)
        have TB := hide (new_block w2 (.cells #[.int .i64 0, .int .i64 0] 27))
        have HBA := hide ((Below.refl w2.heap.size w2).alloc (Nat.le_refl _) (.cells #[.int .i64 0, .int .i64 0] 27))
        have HB3 := hide (Below.next (unhide HB2) (unhide HBA) (Nat.le_refl _))
        have HF3 := hide ((unhide HF2).below (unhide HBA))
        obtain ⟨T, hT⟩ : ∃ T, w2.heap.size = T := ⟨_, rfl⟩
        obtain ⟨W3, hW3⟩ : ∃ W, w2.alloc (.cells #[.int .i64 0, .int .i64 0] 27) = W := ⟨_, rfl⟩
        rw [hT, hW3] at TB
        rw [hW3] at HB3 HF3
        rw [hT, hW3]
        clear hT hW3 HBA HB2 HF2
        obtain ⟨t0, t1, _, _, _⟩ := block2 (unhide TB)
        have HX3 := hide (Below.next (unhide HX) (unhide HB3) (Nat.le_refl _))
        have HO3 := hide ((unhide HOM).below (unhide HB3))
        have e1 : (at' == at') = true := by simp
        go_wp2_with (at_builtin; refine wpList_append_ints rfl (.tmp 60) (.tmp 62) rfl w.heap.size (.slice a7 n7 c7) mine rfl ((unhide HO3).below ((Below.refl _ _).alloc (Nat.le_refl _) _)) _ [(j : Int) + 1] rfl (ints_new W3 _ 3) (n7 + 1) (by rw [unhide HMN]; rfl) (by have := unhide HMN; omega) (Nat.le_trans (unhide HX3).size (by simp)) ?_; intro a6 c6 w6 ho6 hg6; have HO6 := hide ho6; have HX6 := hide (((unhide HX3).alloc (unhide HX3).size _).grown hg6 (Nat.le_trans (unhide HX3).size (by simp)) (fun k hk => ((unhide HO3).lt k hk).1)); have HF6 := hide (((unhide HF3).below ((Below.refl _ _).alloc (Nat.le_refl _) (.cells #[.int .i64 ((j : Int) + 1)] 3))).keep (fun k h2 h3 => hg6.block k h3 (fun e => by have := ((unhide HOM).lt k e.symm).2; omega))); clear ho6 hg6)
        go_roundw
        case rel =>
          have hi := ((unhide HINV).add (by omega) at').2.2
          rw [if_pos rfl] at hi
          exact ⟨j + 1, a2, n2, c2, a6, n7 + 1, c6, _, _, by omega, rfl, by go_num, rfl, by go_num, (unhide HF6).ls, unhide HO6, hi, by rw [List.length_append]; simp; omega, unhide HX6⟩
        case measure => simp [intOf]; omega
      · have z1 : (z != 0) = true := by simpa using hz
        by_cases hza : z = at'
        · subst hza
          go_upto_region 16 with (go_at_call 12; refine (unhide HAD _).mono ?_; rintro e w2 ⟨a2, n2, c2, rfl, hf2, hb2⟩; have HF2 := hide hf2; have HB2 := hide hb2; clear hf2 hb2 k0)
          have TB := hide (new_block w2 (.cells #[.int .i64 0, .int .i64 0] 27))
          have HBA := hide ((Below.refl w2.heap.size w2).alloc (Nat.le_refl _) (.cells #[.int .i64 0, .int .i64 0] 27))
          have HB3 := hide (Below.next (unhide HB2) (unhide HBA) (Nat.le_refl _))
          have HF3 := hide ((unhide HF2).below (unhide HBA))
          obtain ⟨T, hT⟩ : ∃ T, w2.heap.size = T := ⟨_, rfl⟩
          obtain ⟨W3, hW3⟩ : ∃ W, w2.alloc (.cells #[.int .i64 0, .int .i64 0] 27) = W := ⟨_, rfl⟩
          rw [hT, hW3] at TB
          rw [hW3] at HB3 HF3
          rw [hT, hW3]
          clear hT hW3 HBA HB2 HF2
          obtain ⟨t0, t1, _, _, _⟩ := block2 (unhide TB)
          have HX3 := hide (Below.next (unhide HX) (unhide HB3) (Nat.le_refl _))
          have HO3 := hide ((unhide HOM).below (unhide HB3))
          have e1 : (z == z) = true := by simp
          go_wp2_with (at_builtin; refine wpList_append_ints rfl (.tmp 60) (.tmp 62) rfl w.heap.size (.slice a7 n7 c7) mine rfl ((unhide HO3).below ((Below.refl _ _).alloc (Nat.le_refl _) _)) _ [(j : Int) + 1] rfl (ints_new W3 _ 3) (n7 + 1) (by rw [unhide HMN]; rfl) (by have := unhide HMN; omega) (Nat.le_trans (unhide HX3).size (by simp)) ?_; intro a6 c6 w6 ho6 hg6; have HO6 := hide ho6; have HX6 := hide (((unhide HX3).alloc (unhide HX3).size _).grown hg6 (Nat.le_trans (unhide HX3).size (by simp)) (fun k hk => ((unhide HO3).lt k hk).1)); have HF6 := hide (((unhide HF3).below ((Below.refl _ _).alloc (Nat.le_refl _) (.cells #[.int .i64 ((j : Int) + 1)] 3))).keep (fun k h2 h3 => hg6.block k h3 (fun e => by have := ((unhide HOM).lt k e.symm).2; omega))); clear ho6 hg6)
          go_roundw
          case rel =>
            have hi := ((unhide HINV).add (by omega) z).2.2
            rw [if_pos rfl] at hi
            exact ⟨j + 1, a2, n2, c2, a6, n7 + 1, c6, _, _, by omega, rfl, by go_num, rfl, by go_num, (unhide HF6).ls, unhide HO6, hi, by rw [List.length_append]; simp; omega, unhide HX6⟩
          case measure => simp [intOf]; omega
        · have z2 : (z == at') = false := by simpa using hza
          go_upto_region 16 with (go_at_call 12; refine (unhide HAD _).mono ?_; rintro e w2 ⟨a2, n2, c2, rfl, hf2, hb2⟩; have HF2 := hide hf2; have HB2 := hide hb2; clear hf2 hb2 k0)
          have TB := hide (new_block w2 (.cells #[.int .i64 0, .int .i64 0] 27))
          have HBA := hide ((Below.refl w2.heap.size w2).alloc (Nat.le_refl _) (.cells #[.int .i64 0, .int .i64 0] 27))
          have HB3 := hide (Below.next (unhide HB2) (unhide HBA) (Nat.le_refl _))
          have HF3 := hide ((unhide HF2).below (unhide HBA))
          obtain ⟨T, hT⟩ : ∃ T, w2.heap.size = T := ⟨_, rfl⟩
          obtain ⟨W3, hW3⟩ : ∃ W, w2.alloc (.cells #[.int .i64 0, .int .i64 0] 27) = W := ⟨_, rfl⟩
          rw [hT, hW3] at TB
          rw [hW3] at HB3 HF3
          rw [hT, hW3]
          clear hT hW3 HBA HB2 HF2
          obtain ⟨t0, t1, _, _, _⟩ := block2 (unhide TB)
          have HX3 := hide (Below.next (unhide HX) (unhide HB3) (Nat.le_refl _))
          have HO3 := hide ((unhide HOM).below (unhide HB3))
          have hia := ((unhide HINV).add (by omega) z).2.2
          rw [if_neg (fun e => hza e.symm)] at hia
          have HIA := hide hia
          have HWK : Hid (Calls Try.prog 23 #[.slice a2 n2 c2, .int .i64 z, .int .i64 1] W3 fun e w' => ∃ a1 m1 c1 a4 m4 c4, e = .returned (.tuple #[.slice a1 m1 c1, .slice a4 m4 c4, .agg #[.int .i64 0, .int .i64 0]]) ∧ IsLs w' (.slice a1 m1 c1) (takenL z 1 (addL ls z ((j : Int) + 1) false)) ∧ Below W3.heap.size W3 w') := by
            refine (wake_ok W3 a2 n2 c2 z 1 _ (unhide HF3).ls hia.good).mono ?_
            rintro e w' ⟨a1, c1, a4, c4, rfl, h2, _, h3⟩
            exact ⟨a1, _, c1, a4, _, c4, rfl, h2.ls, h3⟩
          clear hia
          go_wp2_with (go_at_call 23; refine (unhide HWK).mono ?_; rintro e w4 ⟨a4, m4, c4, a8, m8, c8, rfl, hi4, hb4⟩; have HBB := hide ((Below.refl w4.heap.size w4).alloc (Nat.le_refl _) (.cells #[.int .i64 0, .int .i64 0] 27)); have HI4 := hide (hi4.below (unhide HBB)); have HX4 := hide (Below.next (Below.next (unhide HX3) hb4 (Nat.le_refl _)) (unhide HBB) (Nat.le_refl _)); have HO4 := hide (((unhide HO3).below hb4).below (unhide HBB)); clear hi4 hb4 HBB)
          all_goals go_roundw
          all_goals first
            | exact ⟨j + 1, a4, m4, c4, a7, n7, c7, _, mine, by omega, rfl, by go_num, rfl, by go_num, unhide HI4, unhide HO4, (unhide HIA).taken (fun e => hza e.symm), by omega, unhide HX4⟩
            | exact ⟨j + 1, a2, n2, c2, a7, n7, c7, _, mine, by omega, rfl, by go_num, rfl, by go_num, (unhide HF3).ls, unhide HO3, unhide HIA, by omega, unhide HX3⟩
            | (simp [intOf]; omega)
    · have hmn : mine.length = n7 := by obtain ⟨_, _, e⟩ := hom.form; cases e; rfl
      have hn7 : n7 ≤ 200 := by omega
      have HM : Hid (0 < n7 → ∃ b off, a7 = some ⟨b, off, none⟩ ∧ b < wr.heap.size ∧ ∀ j, j < n7 → wr.cell? ⟨b, off + j, none⟩ = some (.int .i64 (mine.getD j 0))) := fun hp => by
        obtain ⟨b, off, c', e, hb, hc⟩ := hom.ints.at (by omega)
        rw [hmn] at e
        cases e
        exact ⟨b, off, rfl, hb, fun j hj => hc j (by omega)⟩
      have HX := hide hnx; have HINV := hide hinv; have HLS := hide hls; have HMN := hide hmn
      clear hnx hinv hls hom hmn HA
      obtain ⟨V, hV⟩ : ∃ V, wr = V := ⟨_, rfl⟩
      rw [hV] at HM HX HLS
      rw [hV]
      clear hV wr
      go_wp2_with fail
      go_loopw [5, 15] (fun s5 s15 wr => ∃ (i : Nat) (a5 : Option Addr) (n5 c5 : Nat) (ls : List Ln), i ≤ n7 ∧ s5 = .slice a5 n5 c5 ∧ s15 = .int .i64 i ∧ IsLs wr (.slice a5 n5 c5) ls ∧ Good ls ∧ tasksL at' ls = mine.drop i ∧ Below V.heap.size V wr) (fun _ s15 _ => n7 - (intOf s15).toNat)
      case atStart => exact ⟨0, a5, n5, c5, ls, Nat.zero_le _, rfl, rfl, unhide HLS, (unhide HINV).good, by simpa using (unhide HINV).mine, Below.refl _ _⟩
      case round =>
        clear HLS HINV
        obtain ⟨i, a9, n9, c9, ls9, hi, rfl, rfl, hls9, hg9, ht9, hnx9⟩ := hrel
        have HWK : Hid (Calls Try.prog 23 #[.slice a9 n9 c9, .int .i64 at', .int .i64 1] wr fun e w' => ∃ a1 m1 c1 a4 c4, e = .returned (.tuple #[.slice a1 m1 c1, .slice a4 (firstL at' 1 ls9).length c4, .agg #[.int .i64 0, .int .i64 0]]) ∧ IsLs w' (.slice a1 m1 c1) (takenL at' 1 ls9) ∧ IsInts w' (.slice a4 (firstL at' 1 ls9).length c4) (firstL at' 1 ls9) ∧ Below wr.heap.size wr w') := by
          refine (wake_ok wr a9 n9 c9 at' 1 ls9 hls9 hg9).mono ?_
          rintro e w' ⟨a1, c1, a4, c4, rfl, h2, h4, h3⟩
          exact ⟨a1, _, c1, a4, c4, rfl, h2.ls, h4.ints, h3⟩
        by_cases hlt2 : i < n7
        · obtain ⟨b7, off7, rfl, hb7, hc7⟩ := unhide HM (by omega)
          have k7 := (hnx9.cell (p := ⟨b7, off7 + i, none⟩) hb7).trans (hc7 i hlt2)
          rw [drop_at (by rw [unhide HMN]; exact hlt2)] at ht9
          obtain ⟨t, et⟩ : ∃ t, mine.getD i 0 = t := ⟨_, rfl⟩
          rw [et] at ht9 k7
          rw [first_one ht9] at HWK
          have HT1 := hide (taken_one hg9 ht9); have HG1 := hide (taken_good hg9 at' 1).1
          have i0 : (0 : Int) ≤ (i : Int) := by omega
          have i1 : (i : Int) < (n7 : Int) := by omega
          have HX9 := hide hnx9
          have HK7 : Hid (∀ W, Below wr.heap.size wr W → W.cell? ⟨b7, off7 + i, none⟩ = some (.int .i64 t)) := fun W hW => (hW.cell (p := ⟨b7, off7 + i, none⟩) (World.block_lt_of_cell? _ _ k7)).trans k7
          clear hnx9 hls9 hg9 ht9 et hc7 hb7 k7 HM
          go_upto_region 30 with (go_at_call 23; refine (unhide HWK).mono ?_; rintro e w4 ⟨a4, m4, c4, a8, c8, rfl, hi4, hn4, hb4⟩; have HI4 := hide hi4; have HN4 := hide hn4; have HB4 := hide hb4; clear hi4 hn4 hb4)
          have TB := hide (new_block w4 (.cells #[.int .i64 0, .int .i64 0] 27))
          have HBA := hide ((Below.refl w4.heap.size w4).alloc (Nat.le_refl _) (.cells #[.int .i64 0, .int .i64 0] 27))
          have HB5 := hide (Below.next (unhide HB4) (unhide HBA) (Nat.le_refl _))
          have HI5 := hide ((unhide HI4).below (unhide HBA))
          obtain ⟨b8, off8, c8', e8, hb8, hc8⟩ := ((unhide HN4).below (unhide HBA)).at (by simp)
          cases e8
          have l0 := hc8 0 (by simp)
          rw [Nat.add_zero] at l0
          obtain ⟨T, hT⟩ : ∃ T, w4.heap.size = T := ⟨_, rfl⟩
          obtain ⟨W5, hW5⟩ : ∃ W, w4.alloc (.cells #[.int .i64 0, .int .i64 0] 27) = W := ⟨_, rfl⟩
          rw [hT, hW5] at TB
          rw [hW5] at HB5 HI5 l0
          rw [hT, hW5]
          clear hT hW5 HBA HB4 HI4 HN4 hc8 hb8
          obtain ⟨t0, t1, _, _, _⟩ := block2 (unhide TB)
          have k7 := unhide HK7 W5 (unhide HB5)
          have e1 : (t != t) = false := by simp
          have l1 : W5.cell? ⟨b8, off8, none⟩ = some (.int .i64 t) := l0
          clear l0
          go_quiet (fail)
          have HX6 := hide (below_drewN (Below.next (unhide HX9) (unhide HB5) (Nat.le_refl _)) nq)
          have HI6 := hide ((unhide HI5).below (below_drewN (Below.refl _ _) nq))
          clear t0 t1 k7 l1
          go_wp2_with fail
          go_roundw
          case rel => exact ⟨i + 1, a4, m4, c4, _, by omega, rfl, by go_num, unhide HI6, unhide HG1, unhide HT1, unhide HX6⟩
          case measure => simp [intOf]; omega
        · rw [List.drop_eq_nil_of_le (by rw [unhide HMN]; omega)] at ht9
          rw [first_none ht9] at HWK
          have HX9 := hide (Below.next (unhide HX) hnx9 (Nat.le_refl _))
          clear hnx9 hls9 hg9 ht9 HM
          go_wp2_with (go_at_call 23; refine (unhide HWK).mono ?_; rintro e w4 ⟨a4, m4, c4, a8, c8, rfl, hi4, hn4, hb4⟩; have HX4 := hide (Below.next (unhide HX9) hb4 (Nat.le_refl _)); clear hi4 hn4 hb4)
          go_ret
          exact ⟨rfl, (unhide HX4).alloc (unhide HX4).size _⟩

theorem order_walk (w : World) (at' : Int) (v : Value) (zs : List Int) (h : IsInts w v zs) (hm : zs.length ≤ maxLen) :
    Calls Try.prog 6 #[.int .i64 at', v] w fun e w' => e = .returned (.bool true) ∧ Below w.heap.size w w' := by
  obtain ⟨a, c, rfl⟩ := h.form
  by_cases hl : 200 < zs.length
  · exact order_long w at' a _ c hl hm
  · exact order_ok w at' a _ c zs rfl h (by omega)
end Go.Proofs.Ytjlcfdhghohccaa
