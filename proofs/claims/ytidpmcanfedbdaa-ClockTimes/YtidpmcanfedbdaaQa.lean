/-
  clock.putOff.
-/
import Derived.Test.YtidpmcanfedbdaaQ
namespace Go.Proofs.Ytidpmcanfedbdaa
open Go.RowKit

theorem get_cells {w : World} {g : Nat} {cur : Array Value} {e : TypeId} (hh : w.heap[g]? = some (.cells cur e (0, 0))) {o : Nat} (ho : o < cur.size) : ∃ v, w.cell? ⟨g, o, none⟩ = some v ∧ w.frozen? ⟨g, o, none⟩ = false := by
  refine ⟨cur[o], ?_, ?_⟩
  · simp [World.cell?, hh, ho]
  · simp [World.frozen?, hh]
theorem put4_row {w : World} {g a : Nat} {A : List Value} {e : TypeId} (hh : w.heap[g]? = some (.cells A.toArray e (0, 0))) (ha : a + 4 ≤ A.length) (t d u y : Int) : (put4 w g a t d u y).heap[g]? = some (.cells (A.take a ++ (KA.f (t, d, u, y) ++ A.drop (a + 4))).toArray e (0, 0)) := by
  have h1 : ∀ (W : World) (L : List Value) (i : Nat) (v : Value), W.heap[g]? = some (.cells L.toArray e (0, 0)) → (W.setCell ⟨g, i, none⟩ v).heap[g]? = some (.cells (L.set i v).toArray e (0, 0)) := fun W L i v h => by
    simp [World.setCell, Array.getElem?_modify, h]
  have := h1 _ _ (a + 3) (.int .i64 y) (h1 _ _ (a + 2) (.int .i64 u) (h1 _ _ (a + 1) (.int .i64 d) (h1 _ _ a (.int .i64 t) hh)))
  rw [set4_splice ha] at this
  exact this

set_option maxRecDepth 100000 in
set_option maxHeartbeats 2000000 in
theorem putOff_any (w : World) (base g off n m c : Nat) (x : Al) (xs : List Al) (t d u y : Int) (h : Prt base w (.slice (some ⟨g, off, none⟩) n c) (x :: xs)) (hnm : n = m + 1) (hn : m ≤ 5000) (hm : Mono (t, d, u, y) xs) :
    Calls Try.prog 41 #[.slice (some ⟨g, off, none⟩) n c, .agg #[.int .i64 t, .int .i64 d, .int .i64 u, .int .i64 y]] w fun e w' => e = .returned (.tuple #[]) ∧ Prt base w' (.slice (some ⟨g, off, none⟩) n c) (insL (t, d, u, y) xs) ∧ w.grownBy w' (some g) := by
  have hl : xs.length = m := by have := h.1.len; rw [List.length_cons] at this; omega
  have hc : n ≤ c := h.1.fits
  obtain ⟨hbg, cur, hh⟩ := h.2 g rfl
  have hi := (incl_isl hh (xs := x :: xs) (by rw [List.length_cons, hl, hnm]) hc).1 h.1
  have hple := placeN_le (t, d, u, y) xs
  obtain ⟨p, ep⟩ : ∃ p, placeN (t, d, u, y) xs = p := ⟨_, rfl⟩
  have ei : insL (t, d, u, y) xs = putAt xs p (t, d, u, y) := by unfold insL; rw [ep]
  rw [ei]
  rw [ep] at hple
  obtain ⟨A, hA⟩ : ∃ A, A = cur.toList.take off ++ (xs.take p).flatMap KA.f ++ cur.toList.drop (off + ((xs.take p).flatMap KA.f).length) := ⟨_, rfl⟩
  obtain ⟨hsz, lA, hIn⟩ := putoff_cells hh hi (by rw [hl, hnm]) hple hc A _ (t, d, u, y) hA rfl
  have hsl : ((xs.take p).flatMap KA.f).length = p * 4 := by rw [flat_len, List.length_take, Nat.min_eq_left hple]
  have hsr : Incl cur.toList (off + 4) ((xs.take p).flatMap KA.f) := by
    rw [List.flatMap_cons, incl_append, show (KA.f x).length = 4 from ka.len x] at hi
    have h2 := hi.2
    rw [show xs.flatMap KA.f = (xs.take p).flatMap KA.f ++ (xs.drop p).flatMap KA.f by rw [← List.flatMap_append, List.take_append_drop], incl_append] at h2
    exact h2.1
  have HPR : Hid (∀ W : World, W.heap[g]? = some (.cells A.toArray 42 (0, 0)) → Prt base (put4 W g (off + p * 4) t d u y) (.slice (some ⟨g, off, none⟩) n c) (putAt xs p (t, d, u, y))) := fun W hW => by
    have h4 := put4_row hW (a := off + p * 4) (by rw [lA]; omega) t d u y
    refine ⟨(incl_isl h4 (by rw [putAt_len hple, hl, hnm]) hc).2 hIn, fun k hk => ?_⟩
    cases hk
    exact ⟨hbg, _, h4⟩
  have HFI : Hid (∀ W : World, W.heap[g]? = some (.cells A.toArray 42 (0, 0)) → Prt base ((((W.setCell ⟨g, off + p * 4, none⟩ (.int .i64 t)).setCell ⟨g, off + p * 4 + 1, none⟩ (.int .i64 d)).setCell ⟨g, off + p * 4 + 2, none⟩ (.int .i64 u)).setCell ⟨g, off + p * 4 + 3, none⟩ (.int .i64 y)) (.slice (some ⟨g, off, none⟩) n c) (putAt xs p (t, d, u, y))) := unhide HPR
  obtain ⟨v0, v1, v2, v3, HCE⟩ : ∃ v0 v1 v2 v3, Hid (∀ W : World, W.heap[g]? = some (.cells A.toArray 42 (0, 0)) → (W.cell? ⟨g, off + p * 4, none⟩ = some v0 ∧ W.cell? ⟨g, off + p * 4 + 1, none⟩ = some v1 ∧ W.cell? ⟨g, off + p * 4 + 2, none⟩ = some v2 ∧ W.cell? ⟨g, off + p * 4 + 3, none⟩ = some v3) ∧ (W.frozen? ⟨g, off + p * 4, none⟩ = false ∧ W.frozen? ⟨g, off + p * 4 + 1, none⟩ = false ∧ W.frozen? ⟨g, off + p * 4 + 2, none⟩ = false ∧ W.frozen? ⟨g, off + p * 4 + 3, none⟩ = false)) := by
    have hl4 : off + p * 4 + 3 < A.toArray.size := by rw [List.size_toArray, lA]; omega
    refine ⟨A.toArray[off + p * 4]'(by omega), A.toArray[off + p * 4 + 1]'(by omega), A.toArray[off + p * 4 + 2]'(by omega), A.toArray[off + p * 4 + 3], fun W hW => ⟨⟨?_, ?_, ?_, ?_⟩, ?_, ?_, ?_, ?_⟩⟩
    · simp only [World.cell?, hW]; exact Array.getElem?_eq_getElem _
    · simp only [World.cell?, hW]; exact Array.getElem?_eq_getElem _
    · simp only [World.cell?, hW]; exact Array.getElem?_eq_getElem _
    · simp only [World.cell?, hW]; exact Array.getElem?_eq_getElem _
    all_goals simp [World.frozen?, hW]
  have HX := hide ((Below.refl w.heap.size w).alloc (Nat.le_refl _) (.cells #[.int .i64 t, .int .i64 d, .int .i64 u, .int .i64 y] 42))
  have HP := hide (new_block w (.cells #[.int .i64 t, .int .i64 d, .int .i64 u, .int .i64 y] 42))
  have HH := hide (keep_alloc hh (.cells #[.int .i64 t, .int .i64 d, .int .i64 u, .int .i64 y] 42))
  have HLL := hide (h.1.below (unhide HX))
  have hgw : g < w.heap.size := size_of hh
  have HLN := hide hl; have HM := hide hm; have HEP := hide ep; have HA := hide hA; have HSL := hide hsl; have HSR0 := hide hsr; have HSZ := hide hsz; have HLA := hide lA
  rw [hl] at hple
  clear h hl hh hi hm ep ei hA hsz lA hIn hsl hsr HPR hbg
  have b1 : (1 : Int) ≤ (n : Int) := by omega
  have hpn : p < n := by omega
  have hpc : p < c := by omega
  have HNM := hide hnm
  clear hnm
  go_enter Try.func41, Try.ntmps41
  go_upto_region 1 with fail
  obtain ⟨W0, e0⟩ : ∃ W, w.alloc (.cells #[.int .i64 t, .int .i64 d, .int .i64 u, .int .i64 y] 42) = W := ⟨_, rfl⟩
  rw [e0] at HX HP HH HLL ⊢
  clear e0
  have HSS : Hid (∀ W : World, W.heap[w.heap.size]? = some (.cells #[.int .i64 t, .int .i64 d, .int .i64 u, .int .i64 y] 42 (0, 0)) → W.cell? ⟨w.heap.size, 0, none⟩ = some (.int .i64 t) ∧ W.cell? ⟨w.heap.size, 1, none⟩ = some (.int .i64 d) ∧ W.cell? ⟨w.heap.size, 2, none⟩ = some (.int .i64 u) ∧ W.cell? ⟨w.heap.size, 3, none⟩ = some (.int .i64 y)) := fun W hW => (block4 hW).1
  have HSB : Hid (∀ W, Below W0.heap.size W0 W → (W.cell? ⟨w.heap.size, 0, none⟩ = some (.int .i64 t) ∧ W.cell? ⟨w.heap.size, 1, none⟩ = some (.int .i64 d) ∧ W.cell? ⟨w.heap.size, 2, none⟩ = some (.int .i64 u) ∧ W.cell? ⟨w.heap.size, 3, none⟩ = some (.int .i64 y)) ∧ Below W0.heap.size W0 W) := fun W hW => ⟨unhide HSS W (keep_below (unhide HP) hW), hW⟩
  by_cases hc1 : c = 1
  · have hce : (c = 1) = True := eq_true hc1
    have hm0 : m = 0 := by have := unhide HNM; omega
    have hp0 : p = 0 := by omega
    have HT : Hid (IsL KA W0 (.slice (some ⟨g, off, none⟩) (n - 1) (c - 1)) xs) := by
      have := (unhide HLL).drop_if ka (p := 1) (by have := unhide HNM; omega) (A := some ⟨g, off, none⟩) (by rw [if_pos hc1])
      exact this
    have HSR : Hid (∀ j v, ((xs.take p).flatMap KA.f)[j]? = some v → cur.toList[off + j]? = some v) := fun j v hj => by rw [hp0] at hj; simp at hj
    clear hm0 hp0 hc1
    have HPL : Hid (∀ W, Below W0.heap.size W0 W → Calls Try.prog 40 #[.slice (some ⟨g, off, none⟩) (n - 1) (c - 1), .agg #[.int .i64 t, .int .i64 d, .int .i64 u, .int .i64 y]] W fun e w' => e = .returned (.int .i64 (p : Int)) ∧ Below W.heap.size W w') := fun W hW => by
      have := placeOf_any W (.slice (some ⟨g, off, none⟩) (n - 1) (c - 1)) xs t d u y ((unhide HT).below hW) (by rw [unhide HLN]; omega) (unhide HM)
      rw [unhide HEP] at this
      exact this
    obtain ⟨p0, p1, p2, p3⟩ := unhide HSS _ (unhide HP)
    go_wp2_with fail
    go_region_held3 (fun W => (W.cell? ⟨w.heap.size, 0, none⟩ = some (.int .i64 t) ∧ W.cell? ⟨w.heap.size, 1, none⟩ = some (.int .i64 d) ∧ W.cell? ⟨w.heap.size, 2, none⟩ = some (.int .i64 u) ∧ W.cell? ⟨w.heap.size, 3, none⟩ = some (.int .i64 y)) ∧ Below W0.heap.size W0 W)
      (first | with_reducible exact unhide HSB _ (Below.refl _ _).drew | with_reducible exact unhide HSB _ (unhide HX5))
      (first | (go_at_call 40; refine (unhide HPL _ (by go_split_ands; assumption)).mono ?_; rintro e w5 ⟨rfl, hb5⟩; have HX5 : Hid (Below W0.heap.size W0 w5) := Below.next (by go_split_ands; assumption) hb5 (Nat.le_refl _); clear hb5))
    all_goals
      clear p0 p1 p2 p3
      have HH5 := hide (keep_below (unhide HH) (unhide HX5)); have HP5 := hide (keep_below (unhide HP) (unhide HX5))
      have hcp : ∀ ty sc, (Builtin.copy_ #[22, 22] ty #[.slice (some ⟨g, off, none⟩) n c, .slice (some ⟨g, off, none⟩) p sc]).run Try.prog w5 = .ok (goInt (p : Int)) (w5.setRow g A.toArray) := fun ty sc => by
        rw [unhide HA]
        refine run_copy_rowk w5 _ _ ty 42 4 g off n c ⟨g, off, none⟩ p sc cur 42 _ p Try.underlying22 size4 (unhide HH5) (by simp only [Nat.min_def]; split <;> omega) (unhide HSL) (row_cells (unhide HH5) (off) fun j v hj => ?_) (by have := unhide HSZ; have := unhide HNM; rw [unhide HSL]; omega) (flat_one ka _)
        exact unhide HSR j v hj
      have HH6 := hide (setRow_heap w5 g cur A.toArray 42 _ (unhide HH5))
      have HP6 := hide ((setRow_other w5 g w.heap.size A.toArray (by omega)).trans (unhide HP5))
      have HG6 := hide (grown_trans (grown_of_below (row := some g) (Below.next (unhide HX) (unhide HX5) (Nat.le_refl _))) (grown_setRow w5 g A.toArray))
      have hw1 : IntKind.i64.wrap ((p : Int) + 1) = (p : Int) + 1 := wrapi (by omega) (by omega)
      have htn : ((p : Int) + 1).toNat = p + 1 := by omega
      have i0 : (0 : Int) ≤ (p : Int) + 1 := by omega
      have i1 : (1 : Int) ≤ (p : Int) + 1 := by omega
      have i2 : (p : Int) + 1 ≤ (c : Int) := by omega
      have i3 : (0 : Int) ≤ (p : Int) := by omega
      have i4 : (p : Int) < (n : Int) := by omega
      obtain ⟨W6, e6⟩ : ∃ W, w5.setRow g A.toArray = W := ⟨_, rfl⟩
      rw [e6] at hcp HH6 HP6 HG6
      obtain ⟨⟨p0, p1, p2, p3⟩, -, pl⟩ := block4 (unhide HP6)
      obtain ⟨⟨k0, k1, k2, k3⟩, ⟨f0, f1, f2, f3⟩⟩ := unhide HCE W6 (unhide HH6)
      clear e6
      go_wp2_with (at_builtin; refine wpList_copy_run rfl _ _ 22 22 rfl _ _ rfl rfl (hcp _ _) ?_)
      refine bodyPost_end (v := .tuple #[]) (by simp [results, Try.results41]) rfl ⟨rfl, ?_, ?_⟩
      · exact unhide HFI W6 (unhide HH6)
      · exact grown_trans (unhide HG6) (put4_grown W6 g (off + p * 4) t d u y)
  · have HT : Hid (IsL KA W0 (.slice (some ⟨g, off + 4, none⟩) (n - 1) (c - 1)) xs) := by
      have := (unhide HLL).drop_if ka (p := 1) (by have := unhide HNM; omega) (A := some ⟨g, off + 1 * 4, none⟩) (by rw [if_neg hc1]; rfl)
      exact this
    have HSR : Hid (∀ j v, ((xs.take p).flatMap KA.f)[j]? = some v → cur.toList[off + 4 + j]? = some v) := unhide HSR0
    have HPL : Hid (∀ W, Below W0.heap.size W0 W → Calls Try.prog 40 #[.slice (some ⟨g, off + 4, none⟩) (n - 1) (c - 1), .agg #[.int .i64 t, .int .i64 d, .int .i64 u, .int .i64 y]] W fun e w' => e = .returned (.int .i64 (p : Int)) ∧ Below W.heap.size W w') := fun W hW => by
      have := placeOf_any W (.slice (some ⟨g, off + 4, none⟩) (n - 1) (c - 1)) xs t d u y ((unhide HT).below hW) (by rw [unhide HLN]; omega) (unhide HM)
      rw [unhide HEP] at this
      exact this
    obtain ⟨p0, p1, p2, p3⟩ := unhide HSS _ (unhide HP)
    go_wp2_with fail
    go_region_held3 (fun W => (W.cell? ⟨w.heap.size, 0, none⟩ = some (.int .i64 t) ∧ W.cell? ⟨w.heap.size, 1, none⟩ = some (.int .i64 d) ∧ W.cell? ⟨w.heap.size, 2, none⟩ = some (.int .i64 u) ∧ W.cell? ⟨w.heap.size, 3, none⟩ = some (.int .i64 y)) ∧ Below W0.heap.size W0 W)
      (first | with_reducible exact unhide HSB _ (Below.refl _ _).drew | with_reducible exact unhide HSB _ (unhide HX5))
      (first | (go_at_call 40; refine (unhide HPL _ (by go_split_ands; assumption)).mono ?_; rintro e w5 ⟨rfl, hb5⟩; have HX5 : Hid (Below W0.heap.size W0 w5) := Below.next (by go_split_ands; assumption) hb5 (Nat.le_refl _); clear hb5))
    all_goals
      clear p0 p1 p2 p3
      have HH5 := hide (keep_below (unhide HH) (unhide HX5)); have HP5 := hide (keep_below (unhide HP) (unhide HX5))
      have hcp : ∀ ty sc, (Builtin.copy_ #[22, 22] ty #[.slice (some ⟨g, off, none⟩) n c, .slice (some ⟨g, off + 4, none⟩) p sc]).run Try.prog w5 = .ok (goInt (p : Int)) (w5.setRow g A.toArray) := fun ty sc => by
        rw [unhide HA]
        refine run_copy_rowk w5 _ _ ty 42 4 g off n c ⟨g, off + 4, none⟩ p sc cur 42 _ p Try.underlying22 size4 (unhide HH5) (by simp only [Nat.min_def]; split <;> omega) (unhide HSL) (row_cells (unhide HH5) (off + 4) fun j v hj => ?_) (by have := unhide HSZ; have := unhide HNM; rw [unhide HSL]; omega) (flat_one ka _)
        exact unhide HSR j v hj
      have HH6 := hide (setRow_heap w5 g cur A.toArray 42 _ (unhide HH5))
      have HP6 := hide ((setRow_other w5 g w.heap.size A.toArray (by omega)).trans (unhide HP5))
      have HG6 := hide (grown_trans (grown_of_below (row := some g) (Below.next (unhide HX) (unhide HX5) (Nat.le_refl _))) (grown_setRow w5 g A.toArray))
      have hw1 : IntKind.i64.wrap ((p : Int) + 1) = (p : Int) + 1 := wrapi (by omega) (by omega)
      have htn : ((p : Int) + 1).toNat = p + 1 := by omega
      have i0 : (0 : Int) ≤ (p : Int) + 1 := by omega
      have i1 : (1 : Int) ≤ (p : Int) + 1 := by omega
      have i2 : (p : Int) + 1 ≤ (c : Int) := by omega
      have i3 : (0 : Int) ≤ (p : Int) := by omega
      have i4 : (p : Int) < (n : Int) := by omega
      obtain ⟨W6, e6⟩ : ∃ W, w5.setRow g A.toArray = W := ⟨_, rfl⟩
      rw [e6] at hcp HH6 HP6 HG6
      obtain ⟨⟨p0, p1, p2, p3⟩, -, pl⟩ := block4 (unhide HP6)
      obtain ⟨⟨k0, k1, k2, k3⟩, ⟨f0, f1, f2, f3⟩⟩ := unhide HCE W6 (unhide HH6)
      clear e6
      go_wp2_with (at_builtin; refine wpList_copy_run rfl _ _ 22 22 rfl _ _ rfl rfl (hcp _ _) ?_)
      refine bodyPost_end (v := .tuple #[]) (by simp [results, Try.results41]) rfl ⟨rfl, ?_, ?_⟩
      · exact unhide HFI W6 (unhide HH6)
      · exact grown_trans (unhide HG6) (put4_grown W6 g (off + p * 4) t d u y)

end Go.Proofs.Ytidpmcanfedbdaa
