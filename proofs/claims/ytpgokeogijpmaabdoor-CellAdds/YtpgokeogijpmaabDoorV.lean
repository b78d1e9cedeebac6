/-
  cell.Ends without a fault, where one spot is left at last.
-/
import Derived.Test.YtpgokeogijpmaabDoorU
namespace Go.Proofs.YtpgokeogijpmaabDoor
open Go.RowKit
attribute [local go_sem ↓] Go.wp_at_zero Go.wp_at_succ

theorem Tryd.info22 : (Tryd.prog.info? 22).map (fun i => (i.zero, i.size, i.bytes)) = some (some (.slice none 0 0), 1, 24) := by kernel_rfl

def zeroRow (n : Nat) : Array Value := madeCells (Value.int .i64 0).cells (n * 1)

theorem zeroRow_list (n : Nat) : (zeroRow n).toList = (List.replicate n (0 : Int)).map (Value.int .i64) := by
  unfold zeroRow madeCells
  apply List.ext_getElem?
  intro i
  by_cases h : i < n
  · have e : i % 1 = 0 := Nat.mod_one i
    simp [Value.cells, h, e]
  · simp [Value.cells, h]

theorem make_zeros (n : Nat) (hn : n ≤ 5000) (W : World) : (Instr.makeSlice 22 (.int .i64 (n : Int)) (.int .i64 (n : Int))).run Tryd.prog W = .ok (.slice (some ⟨W.heap.size, 0, none⟩) n n) (W.alloc (.cells (zeroRow n) 3)) := by
  obtain ⟨i0, hi, hz0, hz1, hz2⟩ := info_parts Tryd.info3
  have := run_make (P := Tryd.prog) W 22 3 i0 (.int .i64 0) Tryd.underlying22 hi hz0 .i64 .i64 n n (by omega) (by omega) (by rw [hz2]; omega) (by omega)
  rw [hz1, Int.toNat_natCast] at this
  exact this

theorem MemAt.made (W : World) (n : Nat) (hn : n ≤ 5000) : MemAt (W.alloc (.cells (zeroRow n) 3)) (.slice (some ⟨W.heap.size, 0, none⟩) n n) W.heap.size (List.replicate n 0) := by
  have hl := zeroRow_list n
  have hs : (zeroRow n).size = n := by have := congrArg List.length hl; simpa using this
  refine ⟨n, zeroRow n, by simp, (MapKept.heap_alloc W _).1, by simp, by unfold maxLen; omega, by omega, ?_⟩
  rw [← hl]
  simp [List.take_of_length_le, hs]

theorem first_AB {wr w3 : World} {d m : List Int} {nd nm gd gm capd capm : Nat} (hB : Below wr.heap.size wr w3) (hd : MemAt w3 (.slice (some ⟨gd, 0, none⟩) nd capd) gd d) (hm : MemAt w3 (.slice (some ⟨gm, 0, none⟩) nm capm) gm m) :
    First wr d m nd nm (.slice (some ⟨w3.heap.size, 0, none⟩) 1 1) (w3.alloc (.cells #[.slice (some ⟨gd, 0, none⟩) nd capd, .slice (some ⟨gm, 0, none⟩) nm capm] 45)) :=
  ⟨w3.heap.size, gd, gm, capd, capm, rfl, hB.alloc hB.size _, (MapKept.heap_alloc w3 _).1, hd.keep (Below.heap_alloc _ _ _ hd.lt), hm.keep (Below.heap_alloc _ _ _ hm.lt)⟩

theorem setCell_same {w : World} {a : Addr} {v : Value} (h : w.cell? a = some v) : w.setCell a v = w := by
  have hh : (w.setCell a v).heap = w.heap := by
    apply Array.ext_getElem?
    intro k
    by_cases hk : k = a.block
    · subst hk
      simp only [World.cell?] at h
      simp only [World.setCell, Array.getElem?_modify, if_true]
      cases ho : w.heap[a.block]? with
      | none => simp
      | some o =>
        rw [ho] at h
        cases o with
        | cells c e f =>
          simp only at h
          split at h
          · cases h
          · rename_i hsp
            simp only [Option.map_some, if_neg hsp]
            congr 2
            apply Array.ext_getElem?
            intro i
            rw [Array.getElem?_setIfInBounds]
            split
            · rename_i hi
              subst hi
              rw [h]
              have := (Array.getElem?_eq_some_iff.1 h).1
              simp [this]
            · rfl
        | _ => simp at h
    · exact Below.heap_setCell _ _ _ _ hk
  show ({ w with heap := _ } : World) = w
  exact congrArg (fun x => ({ w with heap := x } : World)) hh

theorem first_1 {wr w3 : World} {m : List Int} {nd nm gm capm : Nat} (hb3 : Below (wr.alloc (.cells (zeroRow nd) 3)).drew.heap.size (wr.alloc (.cells (zeroRow nd) 3)).drew w3) (hm : MemAt w3 (.slice (some ⟨gm, 0, none⟩) nm capm) gm m) (hB : Below wr.heap.size wr w3) (hnd : nd ≤ 5000) :
    First wr (List.replicate nd 0) m nd nm (.slice (some ⟨w3.heap.size, 0, none⟩) 1 1) (w3.alloc (.cells #[.slice (some ⟨wr.heap.size, 0, none⟩) nd nd, .slice (some ⟨gm, 0, none⟩) nm capm] 45)) :=
  first_AB hB ((MemAt.made wr nd hnd).keep (hb3.block _ (by simp))) hm
theorem first_2 {wr w3 : World} {m : List Int} {nd nm gm capm : Nat} (hm : MemAt w3 (.slice (some ⟨gm, 0, none⟩) nm capm) gm m) (hB : Below wr.heap.size wr w3) (hnd : nd ≤ 5000) :
    First wr (List.replicate nd 0) m nd nm (.slice (some ⟨w3.heap.size + 1, 0, none⟩) 1 1) ((w3.alloc (.cells (zeroRow nd) 3)).alloc (.cells #[.slice (some ⟨w3.heap.size, 0, none⟩) nd nd, .slice (some ⟨gm, 0, none⟩) nm capm] 45)) := by
  have := first_AB (hB.alloc hB.size (.cells (zeroRow nd) 3)) (MemAt.made w3 nd hnd) (hm.keep (Below.heap_alloc _ _ _ hm.lt))
  rw [World.size_alloc] at this
  exact this

set_option maxRecDepth 100000 in
set_option maxHeartbeats 2000000 in
theorem ends_one (w : World) (fmt : Int → List Int) (a0 : Option Addr) (c0 : Nat) (zs : List Int) (v1 : Value) (tss : List (List Op4)) (n : Nat)
    (hmem : IsInts w (.slice a0 zs.length c0) zs) (htasks : IsTasks w v1 tss) (hm0 : 0 < zs.length) (hm : zs.length ≤ 32) (ht0 : 0 < tss.length) (ht : tss.length ≤ 4)
    (hf : tfault zs.length tss = (0, 0)) (hn : opsOf tss = n) (hn12 : n ≤ 12) (hall : ∀ k, k < tss.length → ∀ i, i < (tss.getD k []).length → wAt zs.length (tss.getD k []) i = 0) (hlen : ∀ k, k < tss.length → (tss.getD k []).length ≤ 5000)
    (hsp : ∀ r, r ≤ n → 0 < (spotsAfter fmt tss zs r).length ∧ (spotsAfter fmt tss zs r).length ≤ 1073741824 ∧ ∀ j, j < (spotsAfter fmt tss zs r).length → SpotOk zs.length tss (spotAt (spotsAfter fmt tss zs r) j))
    (hD : ∀ r, r < n → ∀ j, j < (spotsAfter fmt tss zs r).length → ∀ k, k < tss.length → (spotAt (spotsAfter fmt tss zs r) j).d.getD k 0 ≠ ((tss.getD k []).length : Int) → ∀ z, z ∈ (stepSpot tss (spotAt (spotsAfter fmt tss zs r) j) k).d ∨ z ∈ (stepSpot tss (spotAt (spotsAfter fmt tss zs r) j) k).m → AppOk w fmt z)
    (hone : (spotsAfter fmt tss zs n).length = 1) :
    Calls Tryd.prog 8 #[.slice a0 zs.length c0, v1] w fun e w' => ∃ v, e = .returned (.tuple #[v, .agg #[.int .i64 0, .int .i64 0]]) ∧ IsLists w' v [(spotAt (spotsAfter fmt tss zs n) 0).m] ∧ Below w.heap.size w w' := by
  have HCE : Hid (∀ W, Below w.heap.size w W → Calls Tryd.prog 14 #[.slice a0 zs.length c0, v1] W fun e w' => e = .returned (.agg #[.int .i64 0, .int .i64 0]) ∧ Below W.heap.size W w') := fun W hW =>
    checkEnds_ok W a0 zs.length c0 v1 tss (htasks.below hW) (by unfold maxLen; omega) ht hf (by omega) (fun j hj => by have := hlen j hj; unfold maxLen; omega)
  have HCO : Hid (∀ W, Below w.heap.size w W → Calls Tryd.prog 15 #[v1] W fun e w' => e = .returned (.int .i64 n) ∧ w' = W) := fun W hW => by
    have := count_any W v1 tss (htasks.below hW) (by unfold maxLen; omega) (by rw [hn]; unfold maxLen; omega)
    rw [hn] at this
    exact this
  have HFR := hide (fun W (hW : Below w.heap.size w W) => fresh_at zs zs.length rfl (Rd.below hmem hW) hm0 (by omega))
  have HON : Hid (∀ r, r < n → ∀ W Bm v, Below w.heap.size w W → W.heap[Bm]? = some (.map ents 5) → SpotsAt W v (spotsAfter fmt tss zs r) → Calls Tryd.prog 16 #[.map (some Bm), v, v1] W fun e w' => ∃ t, e = .returned t ∧ NextInv fmt W w' t (spotsAfter fmt tss zs (r + 1))) := fun r hr W Bm v hW hB hv =>
    onward_any W fmt Bm zs.length v v1 _ tss hB hm0 hm ht0 ht (hsp r (by omega)).2.1 hv (hsp r (by omega)).2.2 (htasks.below hW) hall hlen (fun j hj k hk h z hz => (hD r hr j hj k hk h z hz).on hW)
  have HPOS := hide (fun r hr => (hsp r hr).1)
  have HONE := hide hone
  have HMK := hide (make_zeros tss.length (by omega))
  obtain ⟨a1, c1, rfl⟩ := htasks.form
  clear hf hn hall hlen hsp hD hone hmem htasks
  go_enter Tryd.func8, Tryd.ntmps8
  go_wp2_with (first
    | (go_at_call 14; refine (unhide HCE _ ?_).mono ?_; exact (Below.refl _ _).alloc (Nat.le_refl _) _; rintro e w1 ⟨rfl, hb1⟩; have hX1 := hb1; simp only [World.size_alloc] at hX1; have hs := hX1.size; simp only [World.size_alloc] at hs; have HX1 := hide hX1; clear hb1 hX1))
  refine (deeds_any _).mono ?_
  rintro e w2 ⟨rfl, hw2⟩
  obtain ⟨hBW, hmap, hs2, r0, r1, f0, f1⟩ := second (unhide HX1) hw2 hs
  have HS2 := hide hs2; have HBW := hide hBW; have HMAP := hide hmap; have HR0 := hide r0; have HR1 := hide r1; have HF0 := hide f0; have HF1 := hide f1
  clear hw2 hs2 hBW hmap r0 r1 f0 f1 HX1 HCE
  go_wp2_with fail
  go_cut [8] (fun v8 wA => First w2 (List.replicate tss.length 0) zs tss.length zs.length v8 wA)
  case first =>
    have hmk := unhide HMK
    go_region_held3 (fun w' => Below w2.heap.size w2 w')
      ((first | assumption | exact Below.drew (Below.refl _ _) | exact Below.alloc (by assumption) (Below.size (B := w2.heap.size) (by assumption)) _ | exact Below.alloc (Below.drew (Below.refl _ _)) (Nat.le_refl _) _))
      (first | (go_at_call 12; refine (unhide HFR _ ((unhide HBW).trans (Below.mono (B := w2.heap.size) (by assumption) (unhide HBW).size))).mono ?_; rintro e w3 ⟨gm, capm, rfl, hmm3, hgm, hb3⟩; have hB3 : Below w2.heap.size w2 w3 := Below.trans (by assumption) (hb3.mono (Below.size (B := w2.heap.size) (by assumption)))))
    all_goals go_wp2_with fail
    all_goals go_meet
    all_goals
      case rel => first | exact first_1 hb3 hmm3 hB3 (by omega) | exact first_2 hmm3 hB3 (by omega)
  case rest =>
    obtain ⟨hsp0, hBc⟩ := First.spots hcut
    have HSP0 := hide hsp0; have HBC := hide hBc
    clear hsp0 hBc hcut
    go_wp2_with (go_at_call 15; refine (unhide HCO _ ((unhide HBW).trans ((unhide HBC).mono (unhide HBW).size))).mono ?_; rintro e w5 ⟨rfl, rfl⟩)
    go_loopw [8, 29] (fun v i wr => ∃ r : Nat, r ≤ n ∧ i = .int .i64 r ∧ SpotsAt wr v (spotsAfter fmt tss zs r) ∧ Below w2.heap.size w2 wr) (fun _ i _ => n - (intOf i).toNat)
    case atStart => exact ⟨0, Nat.zero_le _, rfl, unhide HSP0, unhide HBC⟩
    case round =>
      obtain ⟨r, hr, rfl, hspr, hnx⟩ := hrel
      have hBw : Below w.heap.size w wr := (unhide HBW).trans (hnx.mono (unhide HBW).size)
      by_cases hlt : r < n
      · have HC := hide (unhide HON r hlt wr (w1.heap.size + 1) u8 hBw ((hnx.block _ (by have := unhide HS2; omega)).trans (unhide HMAP)) hspr)
        have HNX := hide hnx
        clear hspr hnx hBw
        go_wp2_with (go_at_call 16; refine (unhide HC).mono ?_; rintro e w6 ⟨t, rfl, hinv⟩; have HI := hide hinv; clear hinv)
        go_roundw
        case rel => exact ⟨r + 1, by omega, by go_num, SpotsAt.of_next (unhide HI) (unhide HPOS (r + 1) (by omega)), (unhide HNX).trans ((unhide HI).1.mono (unhide HNX).size)⟩
        case measure => simp [intOf]; omega
      · obtain rfl : r = n := by omega
        obtain ⟨sb, so, sc, VD, VM, rfl, hsb, h1, h2, h3⟩ := hspr
        have hl1 := unhide HONE
        have c1 := h1 0 (by omega)
        have c2 := h2 0 (by omega)
        obtain ⟨g1, g2⟩ := h3 0 (by omega)
        obtain ⟨ad, cd, ed⟩ := Rd.form g1
        obtain ⟨am, cm, em⟩ := Rd.form g2
        rw [ed] at c1
        rw [Nat.zero_mul, Nat.add_zero] at c1 c2
        rw [hl1]
        have HG2 := hide g2
        rw [em] at c2 HG2
        have HNX := hide hnx
        obtain ⟨i2, hi2, hy0, hy1, hy2⟩ := info_parts Tryd.info22
        obtain ⟨s0, hs0⟩ : ∃ x, spotAt (spotsAfter fmt tss zs r) 0 = x := ⟨_, rfl⟩
        rw [hs0] at c1 c2 HG2
        have HS0 := hide hs0
        clear h1 h2 h3 hnx hBw g1 g2 ed em hl1 hs0
        go_wp2_with (at_make; refine wpList_make_own _ rfl _ _ 23 rfl wr.heap.size 22 i2 (.slice none 0 0) 1 Tryd.underlying23 hi2 hy0 hy1 .i64 .i64 _ 1 rfl rfl rfl (by rw [hy2]; omega) (by unfold maxLen; omega) (Nat.le_refl _) ?_; intro w7 hown7 hgr7; have HO7 := hide hown7; have HG7 := hide hgr7; clear hown7 hgr7)
        have hB7 : Below wr.heap.size wr w7 := (Below.refl _ _).grown (unhide HG7) (Nat.le_refl _) (fun k hk => by cases hk)
        have HB7 := hide hB7
        clear hB7 HG7
        have hw2H : w2.heap.size ≤ wr.heap.size := (unhide HNX).size
        obtain ⟨H, hH⟩ : ∃ x, wr.heap.size = x := ⟨_, rfl⟩
        rw [hH] at HB7 HO7 hsb hw2H ⊢
        have HH := hide hH
        clear hH
        go_loopw [9, 41] (fun t i wq => (i = .int .i64 0 ∧ wq.ownsRow H 22 1 t 0 [] ∨ i = .int .i64 1 ∧ wq.ownsRow H 22 1 t 1 [.slice am s0.m.length cm]) ∧ Below H wr wq ∧ H ≤ wq.heap.size) (fun _ i _ => 1 - (intOf i).toNat)
        case atStart => exact ⟨Or.inl ⟨rfl, unhide HO7⟩, unhide HB7, by have := (unhide HB7).size; have := unhide HH; omega⟩
        case round =>
          obtain ⟨⟨rfl, hown⟩ | ⟨rfl, hown⟩, hB, hsz⟩ := hrel
          · have d1 := (hB.cell (p := ⟨sb, so, none⟩) hsb).trans c1
            have d2 := (hB.cell (p := ⟨sb, so + 1, none⟩) hsb).trans c2
            have HOWN := hide hown; have HB := hide hB
            clear hown hB c1 c2
            go_wp2_with (at_builtin; refine wpList_append_own _ rfl _ _ 23 rfl H 22 i2 (.slice none 0 0) 1 24 Tryd.underlying23 hi2 hy0 hy1 hy2 rfl (by decide) _ _ _ rfl (((unhide HOWN).alloc _).alloc _) ⟨wr.heap.size + 1, 0, none⟩ 1 1 [.slice am s0.m.length cm] rfl rfl (by have := cell_one_new (wr.alloc (.cells #[.slice ad s0.d.length cd, .slice am s0.m.length cm] 45)) (.slice am s0.m.length cm) 22; rw [World.size_alloc] at this; exact this) (by intro u hu; simp at hu; subst hu; rfl) (by unfold maxLen; omega) (by omega) (by simp; omega) ?_; intro t9 w9 hown9 hgr9 _; have HO9 := hide hown9; have HG9 := hide hgr9; clear hown9 hgr9)
            go_roundw
            case rel =>
              have hA : Below H _ w9 := (((unhide HB).alloc hsz _).alloc (by simp; omega) _).grown (unhide HG9) (by simp; omega) (fun k hk => ((unhide HOWN).lt k hk).1)
              exact ⟨Or.inr ⟨rfl, unhide HO9⟩, hA, by have := (unhide HG9).size; simp at this; omega⟩
            case measure => simp [intOf]
          · obtain ⟨g, cap, rfl⟩ : ∃ g cap, u9 = .slice (some ⟨g, 0, none⟩) 1 cap := by
              obtain ⟨_, ⟨_, h0⟩ | ⟨g, cap, _, hv, _⟩⟩ := hown
              · omega
              · exact ⟨g, cap, hv⟩
            have hlw : w.heap.size < w2.heap.size := by have := unhide HS2; omega
            have hB2 : Below w2.heap.size w2 wr := (unhide HNX).trans (hB.mono hw2H)
            have r0 := (hB2.cell (p := ⟨w.heap.size, 0, none⟩) hlw).trans (unhide HR0)
            have r1 := (hB2.cell (p := ⟨w.heap.size, 1, none⟩) hlw).trans (unhide HR1)
            have f0 := (hB2.frozen (p := ⟨w.heap.size, 0, none⟩) hlw).trans (unhide HF0)
            have f1 := (hB2.frozen (p := ⟨w.heap.size, 1, none⟩) hlw).trans (unhide HF1)
            have HG3 := hide (Rd.below (unhide HG2) (by rw [unhide HH]; exact hB))
            have HOWN := hide hown; have HB2 := hide hB2
            clear hown hB hB2 c1 c2
            go_wp2_with (go_at_call 17; refine (sort_one _ _ _ _).mono ?_; rintro e w8 ⟨rfl, rfl⟩)
            refine bodyPost_ret (v := .tuple #[.slice (some ⟨g, 0, none⟩) 1 cap, .agg #[.int .i64 0, .int .i64 0]]) (by simp [results, Tryd.results8, go_sem, r0, r1]) rfl ⟨_, rfl, ?_, ?_⟩
            · rw [setCell_same r0, setCell_same r1, unhide HS0]
              exact ⟨fun _ => .slice am s0.m.length cm, Rd.of_owns (unhide HOWN), fun j hj => (show j = 0 by simpa using hj) ▸ unhide HG3⟩
            · exact (((unhide HBW).trans ((unhide HB2).mono (Nat.le_of_lt hlw))).setCell (Nat.le_refl _) _).setCell (Nat.le_refl _) _
end Go.Proofs.YtpgokeogijpmaabDoor
