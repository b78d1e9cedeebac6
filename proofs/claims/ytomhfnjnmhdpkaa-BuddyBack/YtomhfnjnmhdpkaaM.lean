/-
  slices.Insert of one alarm.
-/
import Derived.Test.YtomhfnjnmhdpkaaL
namespace Go.Proofs.Ytomhfnjnmhdpkaa
open Go.RowKit

theorem size_blk (w : World) : (Go.sizeOf 38).run Try.prog w = .ok 2 w := by
  obtain ⟨i0, hi, h0, h1, h2⟩ := info_parts Try.info38
  simp [sizeOf, typeInfo, hi, h1]
theorem own_last {xs : List Bl} {x : Bl} : putAt xs xs.length x = xs ++ [x] := by
  unfold putAt
  rw [List.take_length, List.drop_length]
theorem vs_cells {w : World} {vb : Nat} {t c : Int} (h : w.heap[vb]? = some (.cells #[.int .i64 t, .int .i64 c] 38 (0, 0))) : ∀ j v, (KB.f (t, c))[j]? = some v → w.cell? ((⟨vb, 0, none⟩ : Addr).add j) = some v := by
  intro j v hj
  rw [WideShapes.add_plain]
  simp only [World.cell?, h, Nat.zero_add]
  simpa [KB] using hj
theorem row_cells {w : World} {g : Nat} {cur : Array Value} {e : TypeId} {f : Nat × Nat} (h : w.heap[g]? = some (.cells cur e f)) (o : Nat) {cs : List Value} (hc : ∀ j v, cs[j]? = some v → cur.toList[o + j]? = some v) : ∀ j v, cs[j]? = some v → w.cell? ((⟨g, o, none⟩ : Addr).add j) = some v := by
  intro j v hj
  rw [WideShapes.add_plain]
  simp only [World.cell?, h]
  simpa using hc j v hj

set_option maxRecDepth 100000 in
set_option maxHeartbeats 1000000 in
theorem insert_end (w : World) (base : Nat) (a0 : Option Addr) (n c0 : Nat) (xs : List Bl) (t c : Int) (vb : Nat) (h : Own KB base w (.slice a0 n c0) xs) (hl : xs.length = n) (hn : n ≤ 100000) (hvb : w.heap[vb]? = some (.cells #[.int .i64 t, .int .i64 c] 38 (0, 0))) (hbase : base ≤ w.heap.size) :
    Calls Try.prog 43 #[.slice a0 n c0, .int .i64 (n : Int), .slice (some ⟨vb, 0, none⟩) 1 1] w fun e w' => ∃ a' c', e = .returned (.slice a' (n + 1) c') ∧ Own KB base w' (.slice a' (n + 1) c') (putAt xs n (t, c)) ∧ w.grownBy w' (Value.slice a0 n c0).ownBlock := by
  have e1 : putAt xs n (t, c) = xs ++ [(t, c)] := by rw [← hl]; exact own_last
  rw [e1]
  have HV : Hid (IsL KB w (.slice (some ⟨vb, 0, none⟩) 1 1) [(t, c)]) := isl_block kb hvb
  have HO := hide h; have HLN := hide hl; have HBA := hide hbase
  have hfit : n ≤ c0 := h.isl.fits
  clear e1 hvb h hl hbase
  have i0 : (0 : Int) ≤ (n : Int) := by omega
  cases a0 with
  | none =>
    have h0 : n = 0 ∧ c0 = 0 := by
      obtain ⟨-, ⟨h1, h2⟩ | ⟨g, cap, cur, h1, _⟩⟩ := unhide HO
      · cases h1; exact ⟨rfl, rfl⟩
      · cases h1
    obtain ⟨rfl, rfl⟩ := h0
    go_enter Try.func43, Try.ntmps43
    go_wp2_with (at_builtin; refine wpList_append kb rfl _ _ rfl base _ xs rfl (unhide HO) _ [(t, c)] rfl (unhide HV) (0 + 1) (by simp [unhide HLN]) (by simp [KB]) (unhide HBA) ?_; intro a' c' w1 ho hg; have HO1 := hide ho; have HG1 := hide hg; clear ho hg)
    go_ret
    exact ⟨a', c', rfl, unhide HO1, unhide HG1⟩
  | some ad =>
    obtain ⟨g, c1, ev, -, -⟩ : ∃ g c1, Value.slice (some ad) n c0 = .slice (some ⟨g, 0, none⟩) n c1 ∧ True ∧ True := by
      obtain ⟨-, ⟨h1, h2⟩ | ⟨g, cap, cur, h1, _⟩⟩ := unhide HO
      · cases h1
      · rw [unhide HLN] at h1
        exact ⟨g, cap, h1, trivial, trivial⟩
    injection ev with e1 e2 e3
    injection e1 with e1
    subst e1
    clear e2 e3
    by_cases hc0 : c0 = n
    · subst hc0
      go_enter Try.func43, Try.ntmps43
      go_wp2_with (at_builtin; refine wpList_append kb rfl _ _ rfl base _ xs rfl (unhide HO) _ [(t, c)] rfl (unhide HV) (c0 + 1) (by simp [unhide HLN]) (by simp [KB]; omega) (unhide HBA) ?_; intro a' c' w1 ho hg; have HO1 := hide ho; have HG1 := hide hg; clear ho hg)
      go_ret
      exact ⟨a', c', rfl, unhide HO1, unhide HG1⟩
    · go_enter Try.func43, Try.ntmps43
      go_wp2_with (at_builtin; refine wpList_append kb rfl _ _ rfl base _ xs rfl (unhide HO) _ [(t, c)] rfl (unhide HV) (n + 1) (by simp [unhide HLN]) (by simp [KB]; omega) (unhide HBA) ?_; intro a' c' w1 ho hg; have HO1 := hide ho; have HG1 := hide hg; clear ho hg)
      go_ret
      exact ⟨a', c', rfl, unhide HO1, unhide HG1⟩

set_option maxRecDepth 100000 in
set_option maxHeartbeats 1000000 in
theorem insert_room (w : World) (base g n c0 i : Nat) (xs : List Bl) (t c : Int) (vb : Nat) (h : Own KB base w (.slice (some ⟨g, 0, none⟩) n c0) xs) (hl : xs.length = n) (hn : n ≤ 100000) (hi : i < n) (hroom : n + 1 ≤ c0) (hvb : w.heap[vb]? = some (.cells #[.int .i64 t, .int .i64 c] 38 (0, 0))) (hne : g ≠ vb) :
    Calls Try.prog 43 #[.slice (some ⟨g, 0, none⟩) n c0, .int .i64 (i : Int), .slice (some ⟨vb, 0, none⟩) 1 1] w fun e w' => ∃ a' c', e = .returned (.slice a' (n + 1) c') ∧ Own KB base w' (.slice a' (n + 1) c') (putAt xs i (t, c)) ∧ w.grownBy w' (some g) := by
  obtain ⟨-, ⟨h1, h2⟩ | ⟨g', cap, cur, h1, hg, hh, hc1, hc2, hc3, hc4⟩⟩ := h
  · cases h1
  injection h1 with e1 e2 e3
  injection e1 with e1
  injection e1 with e1
  subst e1 e3
  clear e2
  rw [hl] at hc4 hc1
  replace hh : w.heap[g]? = some (.cells cur 38 (0, 0)) := hh
  have hc4' : cur.toList.take (n * 2) = xs.flatMap KB.f := hc4
  have hc3' : cur.size = c0 * 2 := hc3
  have hsz : cur.toList.length = c0 * 2 := by rw [Array.length_toList]; exact hc3'
  obtain ⟨A, hA⟩ : ∃ A, A = cur.toList.take ((i + 1) * 2) ++ (xs.drop i).flatMap KB.f ++ cur.toList.drop ((i + 1) * 2 + ((xs.drop i).flatMap KB.f).length) := ⟨_, rfl⟩
  obtain ⟨B, hB⟩ : ∃ B, B = A.take (i * 2) ++ KB.f (t, c) ++ A.drop (i * 2 + (KB.f (t, c)).length) := ⟨_, rfl⟩
  obtain ⟨lA, lB, hT⟩ := two_copies (t, c) hl hi (by rw [hsz]; omega) hc4' A B hA hB
  have hcp1 : ∀ ty dc sc, (Builtin.copy_ #[22, 22] ty #[.slice (some ⟨g, (i + 1) * 2, none⟩) (n - i) dc, .slice (some ⟨g, i * 2, none⟩) (n + 1 - i) sc]).run Try.prog w.drew = .ok (goInt ((n - i : Nat) : Int)) (w.drew.setRow g A.toArray) := fun ty dc sc => by
    rw [hA]
    refine run_copy_rowk w.drew _ _ ty 38 2 g ((i + 1) * 2) (n - i) dc ⟨g, i * 2, none⟩ (n + 1 - i) sc cur 38 _ (n - i) Try.underlying22 size2 hh ?_ ?_ (row_cells hh (i * 2) fun j v hj => ?_) ?_ (flat_one kb _)
    · simp only [Nat.min_def]; split <;> omega
    · rw [flat_len, List.length_drop, hl]
    · rw [flat_drop, List.getElem?_drop, ← hc4', List.getElem?_take] at hj
      split at hj
      · exact hj
      · cases hj
    · rw [flat_len, List.length_drop, hl]; omega
  have hh1 : (w.drew.setRow g A.toArray).heap[g]? = some (.cells A.toArray 38 (0, 0)) := setRow_heap w.drew g cur _ 38 _ hh
  have hcp2 : ∀ ty dc, (Builtin.copy_ #[22, 22] ty #[.slice (some ⟨g, i * 2, none⟩) (n + 1 - i) dc, .slice (some ⟨vb, 0, none⟩) 1 1]).run Try.prog (w.drew.setRow g A.toArray) = .ok (goInt 1) ((w.drew.setRow g A.toArray).setRow g B.toArray) := fun ty dc => by
    rw [hB]
    have := run_copy_rowk (w.drew.setRow g A.toArray) 22 22 ty 38 2 g (i * 2) (n + 1 - i) dc ⟨vb, 0, none⟩ 1 1 A.toArray 38 (KB.f (t, c)) 1 Try.underlying22 size2 hh1 (by simp only [Nat.min_def]; split <;> omega) rfl (vs_cells ((setRow_other w.drew g vb _ (fun e => hne e.symm)).trans hvb)) (by rw [show (KB.f (t, c)).length = 2 from rfl, List.size_toArray, lA, hsz]; omega) (kb.one _)
    exact this
  have hh2 : ((w.drew.setRow g A.toArray).setRow g B.toArray).heap[g]? = some (.cells B.toArray 38 (0, 0)) := setRow_heap _ g A.toArray _ 38 _ hh1
  have HOW : Hid (Own KB base ((w.drew.setRow g A.toArray).setRow g B.toArray) (.slice (some ⟨g, 0, none⟩) (n + 1) c0) (putAt xs i (t, c))) := by
    have hpl := putAt_len (xs := xs) (i := i) (by omega) (t, c)
    rw [hl] at hpl
    refine ⟨flat_length kb _, Or.inr ⟨g, c0, B.toArray, by rw [hpl], hg, hh2, by rw [hpl]; exact hroom, hc2, ?_, ?_⟩⟩
    · rw [List.size_toArray, lB, hsz]; rfl
    · rw [hpl]
      exact hT
  have HGR : Hid (w.grownBy ((w.drew.setRow g A.toArray).setRow g B.toArray) (some g)) := grown_trans (grown_trans (grown_of_below (Below.refl w.heap.size w).drew) (grown_setRow _ _ _)) (grown_setRow _ _ _)
  have hov : ∀ lb cb, (callFunc 50 #[.slice (some ⟨vb, 0, none⟩) 1 1, .slice (some ⟨g, (i + 1) * 2, none⟩) lb cb]).run Try.prog w = .ok (.value (.bool false)) w := fun lb cb => by
    rw [run_callFunc_extern Try.func50 (by kernel_rfl) (by kernel_rfl) (by kernel_rfl) (e := Extern.SlicesOverlaps.overlaps #[22, 22] #[2]) (by kernel_rfl),
      Lib.run_overlaps_apart w 22 2 38 Try.underlying22 2 size_blk ⟨vb, 0, none⟩ ⟨g, (i + 1) * 2, none⟩ 1 1 lb cb (fun e => hne e.symm) 38 38 2 cur.size (by simp [World.shape?, hvb]) (by simp [World.shape?, hh]) (by omega) (by simp [World.frozen?, hvb]) (by simp [World.frozen?, hvb])]
    rfl
  obtain ⟨W1, eW1⟩ : ∃ W, w.drew.setRow g A.toArray = W := ⟨_, rfl⟩
  rw [eW1] at hcp1 hcp2 HOW HGR
  obtain ⟨W2, eW2⟩ : ∃ W, W1.setRow g B.toArray = W := ⟨_, rfl⟩
  rw [eW2] at hcp2 HOW HGR
  have hz2 : ¬ ((i : Int) = (n : Int)) := by omega
  have hw1 : IntKind.i64.wrap ((i : Int) + 1) = (i : Int) + 1 := wrapi (by omega) (by omega)
  have hw3 : IntKind.i64.wrap ((n : Int) + 1) = (n : Int) + 1 := wrapi (by omega) (by omega)
  have hb0 : (0 : Int) ≤ (i : Int) := by omega
  have hb1 : (0 : Int) ≤ (i : Int) + 1 := by omega
  have hin : i ≤ n := by omega
  have hin2 : (i : Int) ≤ (n : Int) := by omega
  have htn : ((i : Int) + 1).toNat = i + 1 := by omega
  have htn2 : ((n : Int) + 1).toNat = n + 1 := by omega
  have hb2 : ¬ (c0 = i + 1) := by omega
  have hb3 : (i : Int) ≤ (n : Int) + 1 := by omega
  have hb4 : ¬ (c0 = i) := by omega
  have hb5 : ¬ ((c0 : Int) < (n : Int) + 1) := by omega
  have hb6 : (i : Int) + 1 ≤ (n : Int) + 1 := by omega
  have hb7 : (0 : Int) ≤ (n : Int) + 1 := by omega
  have hb8 : (n : Int) + 1 ≤ (c0 : Int) := by omega
  clear hA hB hT lA lB hc4 hc4' hc3 hc3' hc2 hc1 hh hh1 hh2 hsz hvb hg eW1 eW2
  go_enter Try.func43, Try.ntmps43
  go_wp2_with (simp only [hov])
  go_region_law (refine step_copy_run rfl _ _ 22 22 rfl _ _ (by simp [Act.eval, Act.put]) (by simp [Act.eval, Act.put]) (hcp1 _ _ _) ?_)
  go_wp2_with (at_builtin; refine wpList_copy_run rfl _ _ 22 22 rfl _ _ rfl rfl (hcp2 _ _) ?_)
  go_ret
  exact ⟨_, _, rfl, unhide HOW, unhide HGR⟩

set_option maxRecDepth 100000 in
set_option maxHeartbeats 1000000 in
theorem insert_grow (w : World) (base g n c0 i : Nat) (xs : List Bl) (t c : Int) (vb : Nat) (h : Own KB base w (.slice (some ⟨g, 0, none⟩) n c0) xs) (hl : xs.length = n) (hn : n ≤ 100000) (hi : i < n) (hroom : c0 < n + 1) (hvb : w.heap[vb]? = some (.cells #[.int .i64 t, .int .i64 c] 38 (0, 0))) (hbase : base ≤ w.heap.size) :
    Calls Try.prog 43 #[.slice (some ⟨g, 0, none⟩) n c0, .int .i64 (i : Int), .slice (some ⟨vb, 0, none⟩) 1 1] w fun e w' => ∃ a' c', e = .returned (.slice a' (n + 1) c') ∧ Own KB base w' (.slice a' (n + 1) c') (putAt xs i (t, c)) ∧ w.grownBy w' (some g) := by
  obtain ⟨-, ⟨h1, h2⟩ | ⟨g', cap, cur, h1, hg, hh, hc1, hc2, hc3, hc4⟩⟩ := h
  · cases h1
  injection h1 with e1 e2 e3
  injection e1 with e1
  injection e1 with e1
  subst e1 e3
  clear e2
  rw [hl] at hc4 hc1
  replace hh : w.heap[g]? = some (.cells cur 38 (0, 0)) := hh
  have hc4' : cur.toList.take (n * 2) = xs.flatMap KB.f := hc4
  have hc3' : cur.size = c0 * 2 := hc3
  have hsz : cur.toList.length = c0 * 2 := by rw [Array.length_toList]; exact hc3'
  have hgl : g < w.heap.size := size_of hh
  have hvl : vb < w.heap.size := size_of hvb
  obtain ⟨i0, hi0, hz0, hzs, hzb⟩ := info_parts Try.info38
  have hik : i + (n + 1 - i) = n + 1 := by omega
  have hkk : (n : Int) + 1 - (i : Int) = ((n + 1 - i : Nat) : Int) := by omega
  have htl : ((xs.take i).flatMap KB.f).length = i * 2 := by rw [flat_len, List.length_take, hl]; omega
  have hold : (Builtin.firstCells i0.size i (.slice (some ⟨g, 0, none⟩) i c0)).run Try.prog w.drew = .ok ((xs.take i).flatMap KB.f).toArray w.drew := by
    rw [hzs]
    refine run_firstCells_some w.drew 2 i ⟨g, 0, none⟩ i c0 _ htl (row_cells (w := w.drew) hh 0 fun j v hj => ?_)
    rw [flat_take kb] at hj
    rw [Nat.zero_add]
    rw [List.getElem?_take, ← hc4', List.getElem?_take] at hj
    split at hj
    · split at hj
      · exact hj
      · cases hj
    · cases hj
  obtain ⟨G, hG⟩ : ∃ G, G = grownCap w (n + 1) c0 38 := ⟨_, rfl⟩
  obtain ⟨Z, hZ⟩ : ∃ Z : Array Value, Z = ((xs.take i).flatMap KB.f).toArray ++ Builtin.zeroCells (Value.agg #[.int .i64 0, .int .i64 0]).cells (n + 1 - i) ++ Builtin.zeroCells (Value.agg #[.int .i64 0, .int .i64 0]).cells (G - (n + 1)) := ⟨_, rfl⟩
  have hGn : n + 1 ≤ G := by rw [hG]; exact grownCap_ge w _ _ _
  have hGm : G ≤ maxLen := by rw [hG]; exact grownCap_le_maxLen w (n + 1) c0 38 (by unfold maxLen; omega)
  have hcells : (Value.agg #[.int .i64 0, .int .i64 0]).cells = #[.int .i64 0, .int .i64 0] := by kernel_rfl
  have hZl : Z.size = G * 2 := by
    rw [hZ, hcells]
    simp only [Array.size_append, List.size_toArray, htl, Builtin.zeroCells, Array.size_map, Array.size_range]
    simp
    omega
  have hrz : ∀ ty, (Builtin.append_ #[22, 3] ty #[.slice (some ⟨g, 0, none⟩) i c0, .int .i64 ((n : Int) + 1 - (i : Int))]).run Try.prog w = .ok (.slice (some ⟨w.heap.size, 0, none⟩) (n + 1) G) (w.drew.alloc (.cells Z 38)) := fun ty => by
    have h := Lib.run_append_grow_zeros w 22 3 ty 38 i0 _ .i64 .i64 Try.underlying22 Try.underlying3 hi0 hz0 (some ⟨g, 0, none⟩) i c0 _ hold (n + 1 - i) (by omega) (by omega) (by omega) (by omega) (by rw [hzb]; omega) (by rw [hzb, hik]; exact growslice_fits hroom (by omega))
    rw [hik] at h
    rw [hkk, hZ, hG]
    exact h
  have hWn : (w.drew.alloc (.cells Z 38)).heap[w.heap.size]? = some (.cells Z 38 (0, 0)) := new_block w.drew _
  have hWb : Below w.heap.size w (w.drew.alloc (.cells Z 38)) := (Below.refl w.heap.size w).drew.alloc (Nat.le_refl _) _
  obtain ⟨A, hA⟩ : ∃ A, A = Z.toList.take (i * 2) ++ KB.f (t, c) ++ Z.toList.drop (i * 2 + (KB.f (t, c)).length) := ⟨_, rfl⟩
  obtain ⟨B, hB⟩ : ∃ B, B = A.take ((i + 1) * 2) ++ (xs.drop i).flatMap KB.f ++ A.drop ((i + 1) * 2 + ((xs.drop i).flatMap KB.f).length) := ⟨_, rfl⟩
  have hf : (KB.f (t, c)).length = 2 := rfl
  have hdl : ((xs.drop i).flatMap KB.f).length = (n - i) * 2 := by rw [flat_len, List.length_drop, hl]
  have lZ : Z.toList.length = G * 2 := by rw [Array.length_toList]; exact hZl
  have lA : A.length = G * 2 := by
    rw [hA, List.length_append, List.length_append, hf, List.length_take, List.length_drop, lZ]; omega
  have lB : B.length = G * 2 := by
    rw [hB, List.length_append, List.length_append, hdl, List.length_take, List.length_drop, lA]; omega
  have hT : B.take ((n + 1) * 2) = (putAt xs i (t, c)).flatMap KB.f := by
    have e1 : Z.toList.take (i * 2) = (xs.take i).flatMap KB.f := by
      rw [hZ]
      simp only [Array.toList_append, List.append_assoc]
      rw [← htl, List.take_left]
    have e2 : A.take ((i + 1) * 2) = (xs.take i).flatMap KB.f ++ KB.f (t, c) := by
      rw [hA, e1, show (i + 1) * 2 = ((xs.take i).flatMap KB.f ++ KB.f (t, c)).length by rw [List.length_append, htl, hf]; omega, List.take_left]
    rw [hB, e2]
    unfold putAt
    rw [List.flatMap_append, List.flatMap_cons, List.append_assoc, List.append_assoc, show (n + 1) * 2 = i * 2 + (2 + ((n - i) * 2 + 0)) by omega, take_past htl, take_past hf, take_past hdl, List.take_zero, List.append_nil]
  have hcp1 : ∀ W, W.heap[w.heap.size]? = some (.cells Z 38 (0, 0)) → W.heap[vb]? = w.heap[vb]? → ∀ ty dc, (Builtin.copy_ #[22, 22] ty #[.slice (some ⟨w.heap.size, i * 2, none⟩) (n + 1 - i) dc, .slice (some ⟨vb, 0, none⟩) 1 1]).run Try.prog W = .ok (goInt 1) (W.setRow w.heap.size A.toArray) := fun W hW hWv ty dc => by
    rw [hA]
    exact run_copy_rowk W 22 22 ty 38 2 w.heap.size (i * 2) (n + 1 - i) dc ⟨vb, 0, none⟩ 1 1 Z 38 (KB.f (t, c)) 1 Try.underlying22 size2 hW (by simp only [Nat.min_def]; split <;> omega) rfl (vs_cells (hWv.trans hvb)) (by rw [hf, hZl]; omega) (kb.one _)
  have hcp2 : ∀ W, W.heap[w.heap.size]? = some (.cells A.toArray 38 (0, 0)) → W.heap[g]? = w.heap[g]? → ∀ ty dc sc, (Builtin.copy_ #[22, 22] ty #[.slice (some ⟨w.heap.size, (i + 1) * 2, none⟩) (n - i) dc, .slice (some ⟨g, i * 2, none⟩) (n - i) sc]).run Try.prog W = .ok (goInt ((n - i : Nat) : Int)) (W.setRow w.heap.size B.toArray) := fun W hW hWg ty dc sc => by
    rw [hB]
    refine run_copy_rowk W _ _ ty 38 2 w.heap.size ((i + 1) * 2) (n - i) dc ⟨g, i * 2, none⟩ (n - i) sc A.toArray 38 _ (n - i) Try.underlying22 size2 hW ?_ ?_ (row_cells (hWg.trans hh) (i * 2) fun j v hj => ?_) ?_ (flat_one kb _)
    · simp only [Nat.min_def]; split <;> omega
    · exact hdl
    · rw [flat_drop, List.getElem?_drop, ← hc4', List.getElem?_take] at hj
      split at hj
      · exact hj
      · cases hj
    · rw [hdl, List.size_toArray, lA]; omega
  have hgn : g ≠ w.heap.size := by omega
  have hvn : vb ≠ w.heap.size := by omega
  have HOW : Hid (∀ W, W.heap[w.heap.size]? = some (.cells B.toArray 38 (0, 0)) → Own KB base W (.slice (some ⟨w.heap.size, 0, none⟩) (n + 1) G) (putAt xs i (t, c))) := fun W hW => by
    have hpl := putAt_len (xs := xs) (i := i) (by omega) (t, c)
    rw [hl] at hpl
    refine ⟨flat_length kb _, Or.inr ⟨w.heap.size, G, B.toArray, by rw [hpl], hbase, hW, by rw [hpl]; exact hGn, hGm, ?_, ?_⟩⟩
    · rw [List.size_toArray, lB]; rfl
    · rw [hpl]
      exact hT
  have hz2 : ¬ ((i : Int) = (n : Int)) := by omega
  have hz3 : (c0 : Int) < (n : Int) + 1 := by omega
  have hw1 : IntKind.i64.wrap ((i : Int) + 1) = (i : Int) + 1 := wrapi (by omega) (by omega)
  have hw3 : IntKind.i64.wrap ((n : Int) + 1) = (n : Int) + 1 := wrapi (by omega) (by omega)
  have hw4 : IntKind.i64.wrap ((n : Int) + 1 - (i : Int)) = (n : Int) + 1 - (i : Int) := wrapi (by omega) (by omega)
  have hb0 : (0 : Int) ≤ (i : Int) := by omega
  have hb1 : (0 : Int) ≤ (i : Int) + 1 := by omega
  have hin : i ≤ n := by omega
  have hin2 : (i : Int) ≤ (n : Int) := by omega
  have hin3 : (i : Int) ≤ (c0 : Int) := by omega
  have htn : ((i : Int) + 1).toNat = i + 1 := by omega
  have hb2 : ¬ (G = i + 1) := by omega
  have hb3 : (i : Int) ≤ (n : Int) + 1 := by omega
  have hb4 : ¬ (c0 = i) := by omega
  have hb5 : ¬ (G = i) := by omega
  have hb6 : (i : Int) + 1 ≤ (n : Int) + 1 := by omega
  obtain ⟨W1, eW1⟩ : ∃ W, (w.alloc (.cells Z 38)).drew = W := ⟨_, rfl⟩
  have eW1' : w.drew.alloc (.cells Z 38) = W1 := eW1
  rw [eW1'] at hrz hWn hWb
  have hcpA := hcp1 W1 hWn (hWb.block vb hvl)
  have hWn2 := setRow_heap W1 w.heap.size Z A.toArray 38 _ hWn
  have hWb2 : Below w.heap.size w (W1.setRow w.heap.size A.toArray) := hWb.trans ⟨rfl, rfl, rfl, by simp [World.setRow], fun k hk => setRow_other _ _ k _ (by omega)⟩
  obtain ⟨W2, eW2⟩ : ∃ W, W1.setRow w.heap.size A.toArray = W := ⟨_, rfl⟩
  rw [eW2] at hcpA hWn2 hWb2
  have hcpB := hcp2 W2.drew hWn2 (hWb2.drew.block g hgl)
  have hWn3 := setRow_heap W2.drew w.heap.size A.toArray B.toArray 38 _ hWn2
  have hWb3 : Below w.heap.size w (W2.drew.setRow w.heap.size B.toArray) := hWb2.drew.trans ⟨rfl, rfl, rfl, by simp [World.setRow], fun k hk => setRow_other _ _ k _ (by omega)⟩
  obtain ⟨W3, eW3⟩ : ∃ W, W2.drew.setRow w.heap.size B.toArray = W := ⟨_, rfl⟩
  rw [eW3] at hcpB hWn3 hWb3
  have HOW3 := hide (unhide HOW W3 hWn3)
  have HGR : Hid (w.grownBy W3 (some g)) := grown_of_below hWb3
  clear hkk hik hold hcp1 hcp2 hT lA lB lZ hZl hZ hA hB hG hGm hcells hh hc4 hc4' hc3 hc3' hsz hvb hg hWn hWb hWn2 hWb2 hWn3 hWb3 eW1 eW1' eW2 eW3 hi0 hz0 hzs hzb htl hdl hf HOW hc1 hc2 hgl hvl
  go_enter Try.func43, Try.ntmps43
  go_wp2_with (first
    | (at_builtin; refine Lib.wpList_append_run _ rfl _ _ _ _ rfl _ _ rfl rfl _ _ (hrz _) ?_)
    | (at_builtin; refine wpList_copy_run rfl _ _ 22 22 rfl _ _ rfl rfl (hcpA _ _) ?_))
  go_region_law (refine step_copy_run rfl _ _ 22 22 rfl _ _ (by simp [Act.eval, Act.put]) (by simp [Act.eval, Act.put]) (hcpB _ _ _) ?_)
  go_wp2
  go_ret
  exact ⟨_, _, rfl, unhide HOW3, unhide HGR⟩

theorem insert_any (w : World) (base : Nat) (a0 : Option Addr) (n c0 i : Nat) (xs : List Bl) (t c : Int) (vb : Nat) (h : Own KB base w (.slice a0 n c0) xs) (hl : xs.length = n) (hn : n ≤ 100000) (hi : i ≤ n) (hvb : w.heap[vb]? = some (.cells #[.int .i64 t, .int .i64 c] 38 (0, 0))) (hne : ∀ k, (Value.slice a0 n c0).ownBlock = some k → k ≠ vb) (hbase : base ≤ w.heap.size) :
    Calls Try.prog 43 #[.slice a0 n c0, .int .i64 (i : Int), .slice (some ⟨vb, 0, none⟩) 1 1] w fun e w' => ∃ a' c', e = .returned (.slice a' (n + 1) c') ∧ Own KB base w' (.slice a' (n + 1) c') (putAt xs i (t, c)) ∧ w.grownBy w' (Value.slice a0 n c0).ownBlock := by
  by_cases he : i = n
  · subst he
    exact insert_end w base a0 i c0 xs t c vb h hl hn hvb hbase
  · obtain ⟨g, c1, ev, -, -⟩ := Own.at0 h (by omega)
    rw [hl] at ev
    cases ev
    by_cases hr : n + 1 ≤ c0
    · exact insert_room w base g n c0 i xs t c vb h hl hn (by omega) hr hvb (hne g rfl)
    · exact insert_grow w base g n c0 i xs t c vb h hl hn (by omega) (by omega) hvb hbase
end Go.Proofs.Ytomhfnjnmhdpkaa
