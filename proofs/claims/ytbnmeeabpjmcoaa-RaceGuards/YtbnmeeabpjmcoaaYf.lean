/-
  race.Guards.
-/
import Derived.Test.YtbnmeeabpjmcoaaYe
namespace Go.Proofs.Ytbnmeeabpjmcoaa
open Go.RowKit

theorem good_objs {hs : List Int} {l : List Ev} (h : GoodT hs l) : Objs l := fun i hi => (wrong_ok (h.e i hi)).2.2.1
theorem cells_nn {l : List Ev} (h : Objs l) : ∀ n, n ≤ l.length → 0 ≤ cellsN l n ∧ cellsN l n ≤ 21
  | 0, _ => ⟨Int.le_refl _, by show (0 : Int) ≤ 21; omega⟩
  | n + 1, hn => by
    have ih := cells_nn h n (by omega)
    have ho := h n (by omega)
    show 0 ≤ (if isAcc (l.getD n ev0) then _ else _) ∧ (if isAcc (l.getD n ev0) then _ else _) ≤ 21
    split <;> omega
/-- Rows of numbers, each told by f. -/
structure RowsG (w : World) (G m j : Nat) (f : Nat → List Int) : Prop where
  there : w.there G 0 m
  lt : G < w.heap.size
  row : ∀ i, i < j → ∃ a k, w.cell? ⟨G, i, none⟩ = some (.slice a (f i).length k) ∧ Own KI (G + 1) w (.slice a (f i).length k) (f i)
theorem RowsG.below {w w' : World} {G m j : Nat} {f : Nat → List Int} (h : RowsG w G m j f) (hb : Below w.heap.size w w') : RowsG w' G m j f := by
  refine ⟨there_keep h.there (hb.block G h.lt), Nat.lt_of_lt_of_le h.lt hb.size, fun i hi => ?_⟩
  obtain ⟨a, k, h1, h2⟩ := h.row i hi
  exact ⟨a, k, cell_of h1 (hb.block G h.lt), h2.below hb⟩
theorem RowsG.set {w : World} {G m j R o : Nat} {f : Nat → List Int} {v : Value} (h : RowsG w G m j f) (hR : R < G) : RowsG (w.setCell ⟨R, o, none⟩ v) G m j f := by
  have hk : ∀ k, k ≠ R → (w.setCell ⟨R, o, none⟩ v).heap[k]? = w.heap[k]? := fun k hk => Below.heap_setCell _ _ _ _ (by simpa using hk)
  refine ⟨there_keep h.there (hk G (by omega)), by simpa [World.setCell] using h.lt, fun i hi => ?_⟩
  obtain ⟨a, k, h1, h2⟩ := h.row i hi
  exact ⟨a, k, cell_of h1 (hk G (by omega)), h2.set (by omega)⟩
theorem RowsG.put {w : World} {G m j k : Nat} {f : Nat → List Int} {a : Option Addr} (h : RowsG w G m j f) (hj : j < m) (hr : Own KI (G + 1) w (.slice a (f j).length k) (f j)) : RowsG (w.setCell ⟨G, j, none⟩ (.slice a (f j).length k)) G m (j + 1) f := by
  have hth := World.there_setCells h.there G j [.slice a (f j).length k]
  have hset : w.setCells G j [.slice a (f j).length k] = w.setCell ⟨G, j, none⟩ (.slice a (f j).length k) := rfl
  rw [hset] at hth
  refine ⟨hth, by simpa [World.setCell] using h.lt, fun i hi => ?_⟩
  by_cases e : i = j
  · subst e
    have h1 := h.there i hj
    rw [Nat.zero_add] at h1
    have hth1 : w.there G i [Value.slice a (f i).length k].length := fun q hq => by
      have hk0 : q = 0 := by simpa using hq
      subst hk0
      exact h1
    have := World.rangeAt_setCells_same w G i [.slice a (f i).length k] hth1 0 _ rfl
    exact ⟨a, k, this, hr.set (Nat.lt_succ_self _)⟩
  · obtain ⟨a', k', h1, h2⟩ := h.row i (by omega)
    have := World.rangeAt_setCells_apart (w := w) (b' := G) (o' := i) (cs := [.slice a' (f i).length k']) (fun q v hv => by
      have hk : q = 0 := by have := (List.getElem?_eq_some_iff.1 hv).1; simpa using this
      subst hk
      simp at hv
      subst hv
      exact h1) G j [.slice a (f j).length k] (Or.inr (Or.inl (by simp; omega))) 0 _ rfl
    exact ⟨a', k', this, h2.set (Nat.lt_succ_self _)⟩

set_option maxRecDepth 100000 in
set_option maxHeartbeats 4000000 in
theorem guards_fault (w : World) (a0 : Option Addr) (n0 c0 : Nat) (a1 : Option Addr) (n1 c1 : Nat) (l : List Ev) (hs : List Int) (hl : IsL KE w (.slice a0 n0 c0) l) (hh : IsL KI w (.slice a1 n1 c1) hs) (fc fa : Int) (hf : checkF hs l = (fc, fa)) (hfc : fc ≠ 0) :
    Calls Try.prog 27 #[.slice a0 n0 c0, .slice a1 n1 c1] w fun e w' => e = .returned (.tuple #[.slice none 0 0, .agg #[.int .i64 fc, .int .i64 fa]]) ∧ Below w.heap.size w w' := by
  have HCK : Hid (∀ W, Below w.heap.size w W → Calls Try.prog 12 #[.slice a0 n0 c0, .slice a1 n1 c1] W fun e w' => e = .returned (.agg #[.int .i64 fc, .int .i64 fa]) ∧ Below W.heap.size W w') := fun W hW => by
    have := check_any W a0 n0 c0 a1 n1 c1 l hs (hl.below hW) (hh.below hW)
    rwa [hf] at this
  have x1 : (fc == 0) = false := by simpa using hfc
  have x2 : (fc != 0) = true := by simpa using hfc
  clear hl hh hf hfc
  have HX := hide ((Below.refl w.heap.size w).alloc (Nat.le_refl _) (.cells #[.int .i64 0, .int .i64 0] 28 (0, 0)))
  have HQ := hide (new_block w (.cells #[.int .i64 0, .int .i64 0] 28 (0, 0)))
  obtain ⟨W0, e0⟩ : ∃ X, w.alloc (.cells #[.int .i64 0, .int .i64 0] 28 (0, 0)) = X := ⟨_, rfl⟩
  rw [e0] at HX HQ
  have HE := hide e0
  clear e0
  go_enter Try.func27, Try.ntmps27
  go_upto_region 1 with fail
  rw [unhide HE]
  clear HE
  go_upto_region 2 with (go_at_call 12; (with_reducible refine Calls.mono (unhide HCK _ (unhide HX)) ?_); rintro e w1 ⟨rfl, hb1⟩; have HX1 := hide (Below.next (unhide HX) hb1 (Nat.le_refl _)); have HQ1 := hide (keep_below (unhide HQ) hb1); clear hb1)
  have HX2 := hide ((unhide HX1).alloc (unhide HX1).size (.cells #[.int .i64 fc, .int .i64 fa] 28 (0, 0))); have HQ2 := hide (keep_alloc (unhide HQ1) (.cells #[.int .i64 fc, .int .i64 fa] 28 (0, 0))); have HF2 := hide (new_block w1 (.cells #[.int .i64 fc, .int .i64 fa] 28 (0, 0)))
  have hFl : w.heap.size < w1.heap.size := size_of (unhide HQ1)
  obtain ⟨F, eF⟩ : ∃ X, w1.heap.size = X := ⟨_, rfl⟩
  obtain ⟨W2, e2⟩ : ∃ X, w1.alloc (.cells #[.int .i64 fc, .int .i64 fa] 28 (0, 0)) = X := ⟨_, rfl⟩
  rw [eF, e2] at HF2; rw [e2] at HX2 HQ2; rw [eF] at hFl; rw [eF, e2]
  clear eF e2 HX HQ HX1 HQ1 HCK
  obtain ⟨g0, g1, gf0, gf1, gl⟩ := block2 (unhide HF2)
  obtain ⟨q0, q1, f0, f1, ql⟩ := block2 (unhide HQ2)
  go_upto_region 3 with fail
  go_region
  all_goals
    go_wp2_with fail
    exact bodyPost_ret (v := .tuple #[.slice none 0 0, .agg #[.int .i64 fc, .int .i64 fa]]) (by simp [results, Try.results27, go_sem, q0, q1]) rfl ⟨rfl, by first | exact (below_set2 (unhide HX2) (Nat.le_refl _) _ _).drew | exact below_set2 (unhide HX2).drew (Nat.le_refl _) _ _⟩

set_option maxRecDepth 100000 in
set_option maxHeartbeats 4000000 in
theorem guards_good (w : World) (a0 : Option Addr) (n0 c0 : Nat) (a1 : Option Addr) (n1 c1 : Nat) (l : List Ev) (hs : List Int) (hl : IsL KE w (.slice a0 n0 c0) l) (hh : IsL KI w (.slice a1 n1 c1) hs) (hg : GoodT hs l) (m : Nat) (hm : cellsN l n0 = (m : Int)) :
    Calls Try.prog 27 #[.slice a0 n0 c0, .slice a1 n1 c1] w fun e w' => ∃ G, e = .returned (.tuple #[.slice (some ⟨G, 0, none⟩) m m, .agg #[.int .i64 0, .int .i64 0]]) ∧ RowsG w' G m m (fun i => guardsJ l n0 (i : Int) 21) ∧ Below w.heap.size w w' := by
  have hln := hl.len
  have hn : n0 ≤ 2000 := by have := hg.n; omega
  have hob := good_objs hg
  have hmc := cells_nn hob n0 (by omega)
  rw [hm] at hmc
  obtain ⟨AA, hAA, hmk⟩ := make_rows2 m (by omega)
  have HAL : Hid (∀ W : World, (W.alloc (.cells AA 23)).there W.heap.size 0 m) := fun W => there_block (new_block W _) (by omega)
  have HCK : Hid (∀ W, Below w.heap.size w W → Calls Try.prog 12 #[.slice a0 n0 c0, .slice a1 n1 c1] W fun e w' => e = .returned (.agg #[.int .i64 0, .int .i64 0]) ∧ Below W.heap.size W w') := fun W hW => by
    have := check_any W a0 n0 c0 a1 n1 c1 l hs (hl.below hW) (hh.below hW)
    rwa [hg.zero] at this
  have HOB := hide hob; have HM := hide hm; have HLN := hide hln
  have HTR := hide (hl.opens ke hln)
  clear hl hh hg hm hln hob hAA
  have HX := hide ((Below.refl w.heap.size w).alloc (Nat.le_refl _) (.cells #[.int .i64 0, .int .i64 0] 28 (0, 0)))
  have HQ := hide (new_block w (.cells #[.int .i64 0, .int .i64 0] 28 (0, 0)))
  obtain ⟨W0, e0⟩ : ∃ X, w.alloc (.cells #[.int .i64 0, .int .i64 0] 28 (0, 0)) = X := ⟨_, rfl⟩
  rw [e0] at HX HQ
  have HE := hide e0
  clear e0
  go_enter Try.func27, Try.ntmps27
  go_upto_region 1 with fail
  rw [unhide HE]
  clear HE
  go_upto_region 2 with (go_at_call 12; (with_reducible refine Calls.mono (unhide HCK _ (unhide HX)) ?_); rintro e w1 ⟨rfl, hb1⟩; have HX1 := hide (Below.next (unhide HX) hb1 (Nat.le_refl _)); have HQ1 := hide (keep_below (unhide HQ) hb1); clear hb1)
  have HX2 := hide ((unhide HX1).alloc (unhide HX1).size (.cells #[.int .i64 0, .int .i64 0] 28 (0, 0))); have HQ2 := hide (keep_alloc (unhide HQ1) (.cells #[.int .i64 0, .int .i64 0] 28 (0, 0))); have HF2 := hide (new_block w1 (.cells #[.int .i64 0, .int .i64 0] 28 (0, 0)))
  have hFl : w.heap.size < w1.heap.size := size_of (unhide HQ1)
  obtain ⟨F, eF⟩ : ∃ X, w1.heap.size = X := ⟨_, rfl⟩
  obtain ⟨W2, e2⟩ : ∃ X, w1.alloc (.cells #[.int .i64 0, .int .i64 0] 28 (0, 0)) = X := ⟨_, rfl⟩
  rw [eF, e2] at HF2; rw [e2] at HX2 HQ2; rw [eF] at hFl; rw [eF, e2]
  clear eF e2 HX HQ HX1 HQ1 HCK
  obtain ⟨g0, g1, gf0, gf1, gl⟩ := block2 (unhide HF2)
  go_upto_region 5 with (go_at_call 39; (with_reducible refine Calls.mono (newWatch_any W2 l) ?_); rintro e w3 ⟨P, H, A, D, rfl, hw3, hb3⟩; have HW3 := hide hw3; have HB3 := hide hb3; clear hw3 hb3 g0 g1 gf0 gf1 gl)
  go_wp2_with fail
  go_loopw [22] (fun i wr => ∃ j : Nat, j ≤ n0 ∧ i = .int .i64 (j : Int) ∧ Hid (WatAt W2.heap.size wr P H A D l j) ∧ Hid (Below W2.heap.size W2 wr)) (fun i _ => n0 - (intOf i).toNat)
  case atStart => exact ⟨0, Nat.zero_le _, rfl, HW3, HB3⟩
  case round =>
    obtain ⟨j, hj, rfl, HWj, HBj⟩ := hrel
    clear HW3 HB3
    by_cases hlt : j < n0
    · have HLT := hide hlt
      have i0 : (0 : Int) ≤ (j : Int) := by omega
      have i1 : (j : Int) < (n0 : Int) := by omega
      have hw1 : IntKind.i64.wrap ((j : Int) + 1) = (j : Int) + 1 := wrapi (by omega) (by omega)
      have hbw : Below w.heap.size w wr := (unhide HX2).trans ((unhide HBj).mono (unhide HX2).size)
      obtain ⟨tb, tof, rfl, htb, hli⟩ := unhide HTR (by omega)
      obtain ⟨⟨tk, op, ob, vl⟩, ex⟩ : ∃ X, l.getD j ev0 = X := ⟨_, rfl⟩
      obtain ⟨v0, v1, v2, v3⟩ := (hli.below hbw htb).ev (j := j) (by rw [unhide HLN]; exact hlt) ex
      have hW4 := (unhide HWj).below ((Below.refl wr.heap.size wr).alloc (Nat.le_refl _) (.cells #[.int .i64 tk, .int .i64 op, .int .i64 ob, .int .i64 vl] 41 (0, 0)))
      have hb4 := (unhide HBj).alloc (unhide HBj).size (.cells #[.int .i64 tk, .int .i64 op, .int .i64 ob, .int .i64 vl] 41 (0, 0))
      have HV4 := hide (new_block wr (.cells #[.int .i64 tk, .int .i64 op, .int .i64 ob, .int .i64 vl] 41 (0, 0)))
      obtain ⟨V, eV⟩ : ∃ X, wr.heap.size = X := ⟨_, rfl⟩
      obtain ⟨W4, e4⟩ : ∃ X, wr.alloc (.cells #[.int .i64 tk, .int .i64 op, .int .i64 ob, .int .i64 vl] 41 (0, 0)) = X := ⟨_, rfl⟩
      rw [e4] at hW4 hb4; rw [eV, e4] at HV4
      have HB4 := hide hb4
      have HADD := hide (watAdd_any W2.heap.size W4 P H A D l j hW4 tk op ob vl ex (unhide HOB) (by rw [unhide HLN]; exact hlt) (by omega))
      clear hli ex hW4 hb4 hbw
      go_upto_region 8 with fail
      try rw [eV, e4]
      clear eV e4 v0 v1 v2 v3
      obtain ⟨⟨v0, v1, v2, v3⟩, -, vl_⟩ := block4 (unhide HV4)
      go_wp2_with (go_at_call 40; (with_reducible refine Calls.mono (unhide HADD) ?_); rintro e w5 ⟨rfl, hw5, hb5⟩; have HW5 := hide hw5; have HB5 := hide ((unhide HB4).trans hb5); clear hw5 hb5)
      go_roundw
      case rel => exact ⟨j + 1, by omega, by go_num, HW5, HB5⟩
      case measure => simp [intOf]; omega
    · obtain rfl : j = n0 := by omega
      have i1 : ¬ (j : Int) < (j : Int) := by omega
      have hcs := unhide HM
      obtain ⟨⟨s0, s1, s2, s3⟩, -, sl⟩ := block4 (unhide HWj).blk
      rw [hcs] at s3
      have HQ5 := hide (keep_below (unhide HQ2) (unhide HBj))
      have HR4 : Hid (RowsG (wr.alloc (.cells AA 23)) wr.heap.size m 0 (fun i => guardsJ l j (i : Int) 21)) := ⟨unhide HAL wr, by simp, fun i hi => absurd hi (Nat.not_lt_zero _)⟩
      have HB4 := hide ((unhide HBj).alloc (unhide HBj).size (.cells AA 23))
      have HG4 := hide ((Below.refl wr.heap.size wr).alloc (Nat.le_refl _) (.cells AA 23))
      have hQG : w.heap.size < wr.heap.size := size_of (unhide HQ5)
      have hWW : W2.heap.size ≤ wr.heap.size := (unhide HBj).size
      clear hcs
      go_upto_region 11 with fail
      obtain ⟨G, eG⟩ : ∃ X, wr.heap.size = X := ⟨_, rfl⟩
      obtain ⟨W5, e5⟩ : ∃ X, wr.alloc (.cells AA 23) = X := ⟨_, rfl⟩
      rw [eG, e5] at HR4 HG4; rw [e5] at HB4; rw [eG] at hQG hWW; rw [eG, e5]
      have HEG := hide eG
      clear eG e5 s0 s1 s2 s3 sl hmk
      go_wp2_with fail
      go_loopw [37] (fun i wi => ∃ x : Nat, x ≤ m ∧ i = .int .i64 (x : Int) ∧ Hid (RowsG wi G m x (fun i => guardsJ l j (i : Int) 21)) ∧ Hid (Below G wr wi)) (fun i _ => m - (intOf i).toNat)
      case atStart => exact ⟨0, Nat.zero_le _, rfl, HR4, HG4⟩
      case round =>
        obtain ⟨x, hx, rfl, HRx, HBx⟩ := hrel
        clear HR4 HG4
        by_cases hlx : x < m
        · have j0 : (0 : Int) ≤ (x : Int) := by omega
          have j1 : (x : Int) < (m : Int) := by omega
          have hw2 : IntKind.i64.wrap ((x : Int) + 1) = (x : Int) + 1 := wrapi (by omega) (by omega)
          have HLX := hide hlx
          have HGU := hide (guards_any W2.heap.size wr P H A D l j ((unhide HWj).below (by rw [unhide HEG]; exact unhide HBx)) (x : Int))
          obtain ⟨r, hr⟩ : ∃ X, (guardsJ l j (x : Int) 21).length = X := ⟨_, rfl⟩
          rw [hr] at HGU
          have HRR := hide hr
          clear hr
          go_wp2_with (go_at_call 41; (with_reducible refine Calls.mono (unhide HGU) ?_); rintro e w7 ⟨a7, k7, rfl, ho7, hb7⟩; have HR7 := hide ((unhide HRx).below hb7); have HO7 := hide (ho7.base (show G + 1 ≤ wr.heap.size from (unhide HRx).lt)); have HB7 := hide ((unhide HBx).trans (hb7.mono (Nat.le_of_lt (unhide HRx).lt))); obtain ⟨hs7, hf7⟩ := (unhide HR7).there x (unhide HLX); rw [Nat.zero_add] at hs7 hf7; obtain ⟨y7, hy7⟩ := Option.isSome_iff_exists.1 hs7; clear hs7 ho7 hb7)
          go_roundw
          case rel => exact ⟨x + 1, by omega, by go_num, hide (by
            have h0 := RowsG.put (k := k7) (a := a7) (unhide HR7) (unhide HLX) (by rw [unhide HRR]; exact unhide HO7)
            rw [unhide HRR] at h0
            exact h0), hide ((unhide HB7).setCell (Nat.le_refl _) _)⟩
          case measure => simp [intOf]; omega
        · obtain rfl : x = m := by omega
          have j1 : ¬ (x : Int) < (x : Int) := by omega
          have HQ6 := hide (keep_at (unhide HQ5) (unhide HBx) hQG)
          obtain ⟨q0, q1, f0, f1, ql⟩ := block2 (unhide HQ6)
          go_wp2_with fail
          exact bodyPost_ret (v := .tuple #[.slice (some ⟨G, 0, none⟩) x x, .agg #[.int .i64 0, .int .i64 0]]) (by simp [results, Try.results27, go_sem, q0, q1]) rfl ⟨G, rfl, ((unhide HRx).set hQG).set hQG, by
            have h0 : Below w.heap.size w wr := ((unhide HX2).trans ((unhide HBj).mono (unhide HX2).size)).trans ((unhide HBx).mono (by omega))
            exact below_set2 h0 (Nat.le_refl _) _ _⟩
end Go.Proofs.Ytbnmeeabpjmcoaa
