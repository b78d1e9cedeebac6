/-
  The key of a spot: (cell.spot).key, given what strconv.AppendInt appends for the numbers in it.
-/
import Derived.Test.YtpgokeogijpmaabDoorM
namespace Go.Proofs.YtpgokeogijpmaabDoor
open Go.RowKit

/-- strconv.AppendInt, at base 10, appends fmt z for the number z, in every world that goes on from w0. -/
def AppOk (w0 : World) (fmt : Int → List Int) (z : Int) : Prop :=
  (fmt z).length ≤ 20 ∧ ∀ (w : World) (base : Nat) (v : Value) (n : Nat) (xs : List Value), Below w0.heap.size w0 w → w.ownsRow base 5 1 v n xs → base ≤ w.heap.size → n ≤ 1000 →
    Calls Tryd.prog 30 #[v, .int .i64 z, .int .i64 10] w fun e w' => ∃ v', e = .returned v' ∧ w'.ownsRow base 5 1 v' (n + (fmt z).length) (xs ++ (fmt z).map (Value.int .u8)) ∧ w.grownBy w' v.ownBlock

/-- The bytes that a list gives: each number's, and a blank behind it. -/
def kb (fmt : Int → List Int) (zs : List Int) : List Int := zs.flatMap fun z => fmt z ++ [32]
def keyStr (ns : List Int) : ByteArray := ns.foldl (fun r n => r.push (UInt8.ofNat n.toNat)) ByteArray.empty

theorem kb_take {fmt : Int → List Int} {zs : List Int} {k : Nat} (hk : k < zs.length) : kb fmt (zs.take (k + 1)) = kb fmt (zs.take k) ++ fmt (zs.getD k 0) ++ [32] := by
  unfold kb
  rw [List.take_succ_eq_append_getElem hk, List.flatMap_append]
  simp only [List.flatMap_cons, List.flatMap_nil, List.append_nil, List.append_assoc]
  simp [List.getElem?_eq_getElem hk]
theorem kb_length {fmt : Int → List Int} : ∀ {zs : List Int}, (∀ z ∈ zs, (fmt z).length ≤ 20) → (kb fmt zs).length ≤ zs.length * 21
  | [], _ => by simp [kb]
  | z :: zs, h => by
    have ih := kb_length (fmt := fmt) (zs := zs) (fun y hy => h y (List.mem_cons_of_mem _ hy))
    have hz := h z List.mem_cons_self
    have e : kb fmt (z :: zs) = (fmt z ++ [32]) ++ kb fmt zs := by simp [kb]
    rw [e, List.length_append, List.length_append, List.length_cons, List.length_cons]
    simp only [List.length_nil]
    omega

/-- A slice of bytes that is owned, turned into a string. -/
theorem bytes_str {w : World} {base : Nat} {v : Value} {ns : List Int} (h : w.ownsRow base 5 1 v ns.length (ns.map (Value.int .u8))) : (convert 63 9 v).run Tryd.prog w = .ok (.string (keyStr ns)) w := by
  obtain ⟨hl, ⟨rfl, h0⟩ | ⟨g, cap, cur, rfl, hg, hh, r1, r2, r3, r4⟩⟩ := h
  · obtain rfl : ns = [] := by simpa using h0
    rw [run_convert_bytes_string w 63 9 5 none 0 0 Tryd.underlying63 Tryd.underlying5 Tryd.underlying9]
    rfl
  · rw [run_convert_bytes_string w 63 9 5 _ _ _ Tryd.underlying63 Tryd.underlying5 Tryd.underlying9]
    refine run_bytesToString w _ _ _ ns ?_
    have := run_loadCells_list (P := Tryd.prog) w ⟨g, 0, none⟩ (ns.map (Value.int .u8)) (fun j u hj => by
      rw [WideShapes.add_plain]
      simp only [World.cell?, hh]
      rw [← r4, List.getElem?_take] at hj
      split at hj
      · simpa using hj
      · cases hj)
    simpa using this

/-- What has been gathered behind so many of the two lists. -/
def kbs (fmt : Int → List Int) (ds ms : List Int) : Nat → List Int
  | 0 => []
  | 1 => kb fmt ds
  | _ => kb fmt ds ++ kb fmt ms

theorem key_step {w2 wq w4 w6 : World} {t t4 : Value} {N n n4 : Nat} {T T4 : List Value} {o : Obj} (hnx : Below N w2 wq) (hown : wq.ownsRow N 5 1 t n T) (hown4 : w4.ownsRow N 5 1 t4 n4 T4) (hgr4 : wq.grownBy w4 t.ownBlock) (hgr6 : (w4.alloc o).grownBy w6 t4.ownBlock) (hN : N ≤ wq.heap.size) : Below N w2 w6 ∧ N ≤ w6.heap.size := by
  have h4 : N ≤ w4.heap.size := Nat.le_trans hN hgr4.size
  have b4 : Below N w2 w4 := hnx.grown hgr4 hN (fun k hk => (hown.lt k hk).1)
  have b5 : Below N w2 (w4.alloc o) := b4.alloc h4 o
  have h5 : N ≤ (w4.alloc o).heap.size := by simp; omega
  exact ⟨b5.grown hgr6 h5 (fun k hk => (hown4.lt k hk).1), Nat.le_trans h5 hgr6.size⟩

theorem ret_str {a b : ByteArray} (h : a = b) : Ending.returned (.string a) = .returned (.string b) := by rw [h]

set_option maxRecDepth 100000 in
set_option maxHeartbeats 1000000 in
theorem key_any (w : World) (fmt : Int → List Int) (b0 o0 c0 b1 o1 c1 : Nat) (ds ms : List Int) (hb0 : b0 < w.heap.size) (hb1 : b1 < w.heap.size) (hd : ds.length ≤ 4) (hm : ms.length ≤ 32)
    (h0 : ∀ j, j < ds.length → w.cell? ⟨b0, o0 + j, none⟩ = some (.int .i64 (ds.getD j 0))) (h1 : ∀ j, j < ms.length → w.cell? ⟨b1, o1 + j, none⟩ = some (.int .i64 (ms.getD j 0)))
    (hfd : ∀ z ∈ ds, AppOk w fmt z) (hfm : ∀ z ∈ ms, AppOk w fmt z) :
    Calls Tryd.prog 25 #[.agg #[.slice (some ⟨b0, o0, none⟩) ds.length c0, .slice (some ⟨b1, o1, none⟩) ms.length c1]] w fun e w' => e = .returned (.string (keyStr (kb fmt ds ++ kb fmt ms))) ∧ Below w.heap.size w w' := by
  have hmm := fun z hz => (hfm z hz).1
  have hdd := fun z hz => (hfd z hz).1
  obtain ⟨i0, hi, hz0, hz1, hz2⟩ := info_parts Tryd.info5
  have H0 := hide h0; have H1 := hide h1; have HFD := hide hfd; have HFM := hide hfm; have HMM := hide hmm; have HDD := hide hdd
  clear h0 h1 hfd hfm hmm hdd
  go_enter Tryd.func25, Tryd.ntmps25
  go_wp2
  go_loopw [3, 14] (fun t i wr => (i = .int .i64 0 ∧ wr.ownsRow (w.heap.size + 2) 5 1 t ([] : List Int).length (([] : List Int).map (Value.int .u8)) ∨ i = .int .i64 1 ∧ wr.ownsRow (w.heap.size + 2) 5 1 t (kb fmt ds).length ((kb fmt ds).map (Value.int .u8)) ∨ i = .int .i64 2 ∧ wr.ownsRow (w.heap.size + 2) 5 1 t (kb fmt ds ++ kb fmt ms).length ((kb fmt ds ++ kb fmt ms).map (Value.int .u8))) ∧ Below (w.heap.size + 2) ((w.alloc (.cells #[.slice (some ⟨b0, o0, none⟩) ds.length c0, .slice (some ⟨b1, o1, none⟩) ms.length c1] 45)).alloc (.cells #[.slice (some ⟨b0, o0, none⟩) ds.length c0, .slice (some ⟨b1, o1, none⟩) ms.length c1] 22)) wr ∧ w.heap.size + 2 ≤ wr.heap.size)
    (fun _ i _ => 2 - (intOf i).toNat)
  case atStart => exact ⟨Or.inl ⟨rfl, World.ownsRow_nil _ _ _ _⟩, Below.refl _ _, by simp⟩
  case round =>
    obtain ⟨⟨rfl, hown⟩ | ⟨rfl, hown⟩ | ⟨rfl, hown⟩, hnx, hsz⟩ := hrel
    · skip
      have cc : wr.cell? ⟨w.heap.size + 1, 0, none⟩ = some (.slice (some ⟨b0, o0, none⟩) ds.length c0) := by rw [hnx.cell (p := ⟨w.heap.size + 1, 0, none⟩) (by simp)]; simp
      have HNX := hide hnx; have HOWN := hide hown
      clear hnx hown
      go_wp2
      go_loopw [3, 20] (fun t i wq => ∃ k : Nat, k ≤ ds.length ∧ i = .int .i64 k ∧ wq.ownsRow (w.heap.size + 2) 5 1 t (([] : List Int) ++ kb fmt (ds.take k)).length ((([] : List Int) ++ kb fmt (ds.take k)).map (Value.int .u8)) ∧ Below (w.heap.size + 2) ((w.alloc (.cells #[.slice (some ⟨b0, o0, none⟩) ds.length c0, .slice (some ⟨b1, o1, none⟩) ms.length c1] 45)).alloc (.cells #[.slice (some ⟨b0, o0, none⟩) ds.length c0, .slice (some ⟨b1, o1, none⟩) ms.length c1] 22)) wq ∧ w.heap.size + 2 ≤ wq.heap.size)
        (fun _ i _ => ds.length - (intOf i).toNat)
      case atStart => exact ⟨0, Nat.zero_le _, rfl, by simpa [kb] using unhide HOWN, unhide HNX, hsz⟩
      case round =>
        obtain ⟨k, hk, rfl, hown, hnx, hsq⟩ := hrel
        by_cases hlt : k < ds.length
        · have hBw := below_two hnx
          have d0 := (hBw.cell (p := ⟨b0, o0 + k, none⟩) hb0).trans (unhide H0 k hlt)
          have hmem : ds.getD k 0 ∈ ds := by simp [List.getElem?_eq_getElem hlt]
          obtain ⟨zk, hzk⟩ : ∃ z, ds.getD k 0 = z := ⟨_, rfl⟩
          rw [hzk] at d0 hmem
          have hlen := kb_length (fmt := fmt) (zs := ds.take k) (fun z hz => unhide HDD z (List.mem_of_mem_take hz))
          have hl20 := unhide HDD _ hmem
          have hpre : (([] : List Int)).length ≤ 84 := by simp
          have hlk : (ds.take k).length ≤ ds.length := by simp; omega
          have hn0 : (([] : List Int) ++ kb fmt (ds.take k)).length ≤ 800 := by rw [List.length_append]; omega
          have HAPP := hide ((unhide HFD _ hmem).2 wr _ _ _ _ hBw hown hsq (by omega))
          have HNX2 := hide hnx; have HOWN2 := hide hown; have HD0 := hide hBw
          have HKB := hide (kb_take (fmt := fmt) hlt)
          clear hnx hown hBw hlen hmem
          have HZZ := hide hzk
          clear hzk
          go_wp2_with (first
            | (go_at_call 30; refine (unhide HAPP).mono ?_; rintro e w4 ⟨v4, rfl, hown4, hgr4⟩; have HO4 := hide hown4; have HG4 := hide hgr4; have HS4 := hide hgr4.size; clear hown4 hgr4)
            | (at_builtin; refine wpList_append_own _ rfl _ _ 63 rfl (w.heap.size + 2) 5 i0 (.int .u8 0) 1 1 Tryd.underlying63 hi hz0 hz1 hz2 rfl (by decide) _ _ _ rfl ((unhide HO4).alloc _) ⟨w4.heap.size, 0, none⟩ 1 1 [.int .u8 32] rfl rfl (cell_one_new _ _ _) (ints_oneCell .u8 [32]) (by unfold maxLen; omega) (by omega) (by have := unhide HS4; simp; omega) ?_; intro t6 w6 hown6 hgr6 _; have HO6 := hide hown6; have HG6 := hide hgr6; clear hown6 hgr6))
          go_roundw
          case rel =>
            have hA := key_step (unhide HNX2) (unhide HOWN2) (unhide HO4) (unhide HG4) (unhide HG6) hsq
            refine ⟨k + 1, by omega, by go_num, ?_, hA.1, hA.2⟩
            rw [unhide HKB, unhide HZZ]
            have h6 := unhide HO6
            simpa [Nat.add_assoc] using h6
          case measure => simp [intOf]; omega
        · obtain rfl : k = ds.length := by omega
          have HNX2 := hide hnx; have HOWN2 := hide hown
          clear hnx hown
          go_wp2
          go_roundw
          case rel => exact ⟨Or.inr (Or.inl ⟨rfl, by simpa using unhide HOWN2⟩), unhide HNX2, hsq⟩
          case measure => simp [intOf]
    · skip
      have cc : wr.cell? ⟨w.heap.size + 1, 1, none⟩ = some (.slice (some ⟨b1, o1, none⟩) ms.length c1) := by rw [hnx.cell (p := ⟨w.heap.size + 1, 1, none⟩) (by simp)]; simp
      have HNX := hide hnx; have HOWN := hide hown
      clear hnx hown
      go_wp2
      go_loopw [3, 20] (fun t i wq => ∃ k : Nat, k ≤ ms.length ∧ i = .int .i64 k ∧ wq.ownsRow (w.heap.size + 2) 5 1 t (kb fmt ds ++ kb fmt (ms.take k)).length ((kb fmt ds ++ kb fmt (ms.take k)).map (Value.int .u8)) ∧ Below (w.heap.size + 2) ((w.alloc (.cells #[.slice (some ⟨b0, o0, none⟩) ds.length c0, .slice (some ⟨b1, o1, none⟩) ms.length c1] 45)).alloc (.cells #[.slice (some ⟨b0, o0, none⟩) ds.length c0, .slice (some ⟨b1, o1, none⟩) ms.length c1] 22)) wq ∧ w.heap.size + 2 ≤ wq.heap.size)
        (fun _ i _ => ms.length - (intOf i).toNat)
      case atStart => exact ⟨0, Nat.zero_le _, rfl, by simpa [kb] using unhide HOWN, unhide HNX, hsz⟩
      case round =>
        obtain ⟨k, hk, rfl, hown, hnx, hsq⟩ := hrel
        by_cases hlt : k < ms.length
        · have hBw := below_two hnx
          have d0 := (hBw.cell (p := ⟨b1, o1 + k, none⟩) hb1).trans (unhide H1 k hlt)
          have hmem : ms.getD k 0 ∈ ms := by simp [List.getElem?_eq_getElem hlt]
          obtain ⟨zk, hzk⟩ : ∃ z, ms.getD k 0 = z := ⟨_, rfl⟩
          rw [hzk] at d0 hmem
          have hlen := kb_length (fmt := fmt) (zs := ms.take k) (fun z hz => unhide HMM z (List.mem_of_mem_take hz))
          have hl20 := unhide HMM _ hmem
          have hpre : (kb fmt ds).length ≤ 84 := by have := kb_length (fmt := fmt) (zs := ds) (unhide HDD); omega
          have hlk : (ms.take k).length ≤ ms.length := by simp; omega
          have hn0 : (kb fmt ds ++ kb fmt (ms.take k)).length ≤ 800 := by rw [List.length_append]; omega
          have HAPP := hide ((unhide HFM _ hmem).2 wr _ _ _ _ hBw hown hsq (by omega))
          have HNX2 := hide hnx; have HOWN2 := hide hown; have HD0 := hide hBw
          have HKB := hide (kb_take (fmt := fmt) hlt)
          clear hnx hown hBw hlen hmem
          have HZZ := hide hzk
          clear hzk
          go_wp2_with (first
            | (go_at_call 30; refine (unhide HAPP).mono ?_; rintro e w4 ⟨v4, rfl, hown4, hgr4⟩; have HO4 := hide hown4; have HG4 := hide hgr4; have HS4 := hide hgr4.size; clear hown4 hgr4)
            | (at_builtin; refine wpList_append_own _ rfl _ _ 63 rfl (w.heap.size + 2) 5 i0 (.int .u8 0) 1 1 Tryd.underlying63 hi hz0 hz1 hz2 rfl (by decide) _ _ _ rfl ((unhide HO4).alloc _) ⟨w4.heap.size, 0, none⟩ 1 1 [.int .u8 32] rfl rfl (cell_one_new _ _ _) (ints_oneCell .u8 [32]) (by unfold maxLen; omega) (by omega) (by have := unhide HS4; simp; omega) ?_; intro t6 w6 hown6 hgr6 _; have HO6 := hide hown6; have HG6 := hide hgr6; clear hown6 hgr6))
          go_roundw
          case rel =>
            have hA := key_step (unhide HNX2) (unhide HOWN2) (unhide HO4) (unhide HG4) (unhide HG6) hsq
            refine ⟨k + 1, by omega, by go_num, ?_, hA.1, hA.2⟩
            rw [unhide HKB, unhide HZZ]
            have h6 := unhide HO6
            simpa [Nat.add_assoc] using h6
          case measure => simp [intOf]; omega
        · obtain rfl : k = ms.length := by omega
          have HNX2 := hide hnx; have HOWN2 := hide hown
          clear hnx hown
          go_wp2
          go_roundw
          case rel => exact ⟨Or.inr (Or.inr ⟨rfl, by simpa using unhide HOWN2⟩), unhide HNX2, hsq⟩
          case measure => simp [intOf]
    · skip
      have hcv := bytes_str hown
      have HNX := hide hnx
      clear hnx hown
      go_wp2
      go_ret
      exact ⟨rfl, below_two (unhide HNX)⟩
end Go.Proofs.YtpgokeogijpmaabDoor
