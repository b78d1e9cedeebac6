/-
  taskmilllaw.CellPlaces returns true at a place.
-/
import Derived.Test.YtpgokeogijpmaaaDoorPa
import Derived.Test.YtpgokeogijpmaaaDoorPn
namespace Go.Proofs.YtpgokeogijpmaaaDoor
open Go.RowKit
attribute [local go_sem ↓] Go.wp_at_zero Go.wp_at_succ

/-- Two ops, each in a new block of its own. -/
def TwoOps (w2 : World) (a b : Op4) (v7 v8 : Value) (wA : World) : Prop :=
  ∃ ga gb, v7 = .pointer (some ⟨ga, 0, none⟩) ∧ v8 = .pointer (some ⟨gb, 0, none⟩) ∧ Below w2.heap.size w2 wA ∧ wA.heap[ga]? = some (.cells #[.int .i64 a.k, .int .i64 a.p, .int .i64 a.a, .int .i64 a.b] 55 (0, 0)) ∧ wA.heap[gb]? = some (.cells #[.int .i64 b.k, .int .i64 b.p, .int .i64 b.a, .int .i64 b.b] 55 (0, 0))

theorem Tryd.size55 : (Tryd.prog.info? 55).map (·.size) = some 4 := by kernel_rfl

theorem one4 (a b c d : Int) : (#[Value.int .i64 a, .int .i64 b, .int .i64 c, .int .i64 d].all (·.oneCell')) = true := by
  simp [Value.oneCell']

theorem two_old (w : World) (o o' : Obj) : ((w.alloc o).alloc o').drew.heap[w.heap.size]? = some o :=
  (Below.heap_alloc (w.alloc o) o' w.heap.size (by rw [World.size_alloc]; omega)).trans (MapKept.heap_alloc w o).1

theorem two_new (w : World) (o o' : Obj) : ((w.alloc o).alloc o').drew.heap[w.heap.size + 1]? = some o' := by
  have := (MapKept.heap_alloc (w.alloc o) o').1
  rw [World.size_alloc] at this
  exact this

theorem one_below {w w2 : World} (h : Below w.heap.size w w2) (o : Obj) : Below w.heap.size w (w2.alloc o).drew := (h.alloc h.size o).drew
theorem two_below {w w2 : World} (h : Below w.heap.size w w2) (o o' : Obj) : Below w.heap.size w ((w2.alloc o).alloc o').drew := ((h.alloc h.size o).alloc (Nat.le_trans h.size (by rw [World.size_alloc]; omega)) o').drew

theorem two_1 (w2 : World) (a b : Op4) : TwoOps w2 a b (.pointer (some ⟨w2.heap.size, 0, none⟩)) (.pointer (some ⟨w2.heap.size + 1, 0, none⟩)) ((w2.alloc (.cells #[.int .i64 a.k, .int .i64 a.p, .int .i64 a.a, .int .i64 a.b] 55 (0, 0))).alloc (.cells #[.int .i64 b.k, .int .i64 b.p, .int .i64 b.a, .int .i64 b.b] 55 (0, 0))).drew :=
  ⟨_, _, rfl, rfl, (((Below.refl _ _).alloc (Nat.le_refl _) _).alloc (by rw [World.size_alloc]; omega) _).drew, two_old w2 _ _, two_new w2 _ _⟩

theorem two_2 (w2 : World) (a b : Op4) : TwoOps w2 a b (.pointer (some ⟨w2.heap.size + 1, 0, none⟩)) (.pointer (some ⟨w2.heap.size, 0, none⟩)) ((w2.alloc (.cells #[.int .i64 b.k, .int .i64 b.p, .int .i64 b.a, .int .i64 b.b] 55 (0, 0))).alloc (.cells #[.int .i64 a.k, .int .i64 a.p, .int .i64 a.a, .int .i64 a.b] 55 (0, 0))).drew :=
  ⟨_, _, rfl, rfl, (((Below.refl _ _).alloc (Nat.le_refl _) _).alloc (by rw [World.size_alloc]; omega) _).drew, two_new w2 _ _, two_old w2 _ _⟩

theorem cells4 {w : World} {g : Nat} {x0 x1 x2 x3 : Value} (h : w.heap[g]? = some (.cells #[x0, x1, x2, x3] 55 (0, 0))) : w.cell? ⟨g, 0, none⟩ = some x0 ∧ w.cell? ⟨g, 1, none⟩ = some x1 ∧ w.cell? ⟨g, 2, none⟩ = some x2 ∧ w.cell? ⟨g, 3, none⟩ = some x3 := by
  simp [World.cell?, h]

theorem cell_new (w : World) (x y : Value) : (w.alloc (.cells #[x, y] 27)).cell? ⟨w.heap.size, 0, none⟩ = some x := by
  have h := (MapKept.heap_alloc w (.cells #[x, y] 27)).1
  simp only [World.cell?, h]
  rfl

set_option maxRecDepth 100000 in
set_option maxHeartbeats 600000 in
theorem places_main (w : World) (a0 : Option Addr) (c0 ob oo c1 k : Nat) (zs : List Int) (os : List Op4) (h0 : IsInts w (.slice a0 zs.length c0) zs) (h1 : IsOps w (.slice (some ⟨ob, oo, none⟩) os.length c1) os) (hf : (fault zs.length os).1 = 0) (hk : k + 1 < os.length) (hob : ob < w.heap.size)
    (hK : ∀ j, j < os.length → w.cell? ⟨ob, oo + j * 4, none⟩ = some (.int .i64 (opAtD os j).k)) (hP : ∀ j, j < os.length → w.cell? ⟨ob, oo + j * 4 + 1, none⟩ = some (.int .i64 (opAtD os j).p))
    (hA : ∀ j, j < os.length → w.cell? ⟨ob, oo + j * 4 + 2, none⟩ = some (.int .i64 (opAtD os j).a)) (hB : ∀ j, j < os.length → w.cell? ⟨ob, oo + j * 4 + 3, none⟩ = some (.int .i64 (opAtD os j).b)) :
    Calls Tryd.prog 7 #[.slice a0 zs.length c0, .slice (some ⟨ob, oo, none⟩) os.length c1, .int .i64 k] w fun e w' => e = .returned (.bool true) ∧ Below w.heap.size w w' := by
  have hnot : ∀ (x : Bool) (w : World), (Op.unary .not (.bool x)).run Tryd.prog w = .ok (.bool (!x)) w := fun _ _ => rfl
  have hfld := fld
  obtain ⟨hm32, hn5, hall⟩ := fault_none hf
  have hfp := fault_pair hf
  have HOF : Hid (∀ W, Below w.heap.size w W → Calls Tryd.prog 13 #[.slice a0 zs.length c0, .slice (some ⟨ob, oo, none⟩) os.length c1] W fun e w' => e = .returned (.agg #[.int .i64 0, .int .i64 0]) ∧ Below W.heap.size W w') := fun W hW => by
    have := opsf_any W a0 zs.length c0 _ os (Rd.below h1 hW) (by unfold maxLen; omega) (by unfold maxLen; omega)
    rw [hfp] at this
    exact this
  obtain ⟨a, ea⟩ : ∃ x, opAtD os k = x := ⟨_, rfl⟩
  obtain ⟨b, eb⟩ : ∃ x, opAtD os (k + 1) = x := ⟨_, rfl⟩
  have x0 := hK k (by omega); have x1 := hP k (by omega); have x2 := hA k (by omega); have x3 := hB k (by omega)
  have y0 := hK (k + 1) hk; have y1 := hP (k + 1) hk; have y2 := hA (k + 1) hk; have y3 := hB (k + 1) hk
  rw [ea] at x0 x1 x2 x3
  rw [eb] at y0 y1 y2 y3
  have HX : Hid (∀ W, Below w.heap.size w W → (W.cell? ⟨ob, oo + k * 4, none⟩ = some (.int .i64 a.k) ∧ W.cell? ⟨ob, oo + k * 4 + 1, none⟩ = some (.int .i64 a.p) ∧ W.cell? ⟨ob, oo + k * 4 + 2, none⟩ = some (.int .i64 a.a) ∧ W.cell? ⟨ob, oo + k * 4 + 3, none⟩ = some (.int .i64 a.b)) ∧
      (W.cell? ⟨ob, oo + (k + 1) * 4, none⟩ = some (.int .i64 b.k) ∧ W.cell? ⟨ob, oo + (k + 1) * 4 + 1, none⟩ = some (.int .i64 b.p) ∧ W.cell? ⟨ob, oo + (k + 1) * 4 + 2, none⟩ = some (.int .i64 b.a) ∧ W.cell? ⟨ob, oo + (k + 1) * 4 + 3, none⟩ = some (.int .i64 b.b)) ∧ Below w.heap.size w W) := fun W hW =>
    ⟨⟨(hW.cell (p := ⟨ob, oo + k * 4, none⟩) hob).trans x0, (hW.cell (p := ⟨ob, oo + k * 4 + 1, none⟩) hob).trans x1, (hW.cell (p := ⟨ob, oo + k * 4 + 2, none⟩) hob).trans x2, (hW.cell (p := ⟨ob, oo + k * 4 + 3, none⟩) hob).trans x3⟩,
     ⟨(hW.cell (p := ⟨ob, oo + (k + 1) * 4, none⟩) hob).trans y0, (hW.cell (p := ⟨ob, oo + (k + 1) * 4 + 1, none⟩) hob).trans y1, (hW.cell (p := ⟨ob, oo + (k + 1) * 4 + 2, none⟩) hob).trans y2, (hW.cell (p := ⟨ob, oo + (k + 1) * 4 + 3, none⟩) hob).trans y3⟩, hW⟩
  have HEA := hide ea; have HEB := hide eb; have HV0 := hide h0; have HV1 := hide h1; have HALL := hide hall; have HF := hide hf
  have i0 : ¬ (k : Int) < 0 := by omega
  have i1 : ¬ (os.length : Int) - 1 ≤ (k : Int) := by omega
  have i2 : (0 : Int) ≤ (k : Int) := by omega
  have i3 : (k : Int) < (os.length : Int) := by omega
  have i4 : (k : Int) + 1 < (os.length : Int) := by omega
  have i5 : (0 : Int) ≤ (k : Int) + 1 := by omega
  have i6 : IntKind.i64.wrap ((k : Int) + 1) = (k : Int) + 1 := by simp [IntKind.wrap, IntKind.bits, IntKind.signed]; omega
  clear hK hP hA hB x0 x1 x2 x3 y0 y1 y2 y3 ea eb h0 h1 hall hf hfp
  go_enter Tryd.func7, Tryd.ntmps7
  go_wp2_with (first
    | (go_at_call 14; refine (begun_any _).mono ?_; rintro e w1 ⟨rfl, hb1⟩; have HB1 := hide hb1; clear hb1)
    | (go_at_call 13; refine (unhide HOF _ (unhide HB1)).mono ?_; rintro e w2 ⟨rfl, hb2⟩; have HB2 := hide ((unhide HB1).trans (hb2.mono (unhide HB1).size)); clear hb2))
  clear HOF HB1
  go_cut [7, 8] (fun v7 v8 wA => TwoOps w2 a b v7 v8 wA)
  case first =>
    obtain ⟨⟨x0, x1, x2, x3⟩, ⟨y0, y1, y2, y3⟩, _⟩ := unhide HX _ (unhide HB2)
    go_region_held3 (fun w' => (w'.cell? ⟨ob, oo + k * 4, none⟩ = some (.int .i64 a.k) ∧ w'.cell? ⟨ob, oo + k * 4 + 1, none⟩ = some (.int .i64 a.p) ∧ w'.cell? ⟨ob, oo + k * 4 + 2, none⟩ = some (.int .i64 a.a) ∧ w'.cell? ⟨ob, oo + k * 4 + 3, none⟩ = some (.int .i64 a.b)) ∧
      (w'.cell? ⟨ob, oo + (k + 1) * 4, none⟩ = some (.int .i64 b.k) ∧ w'.cell? ⟨ob, oo + (k + 1) * 4 + 1, none⟩ = some (.int .i64 b.p) ∧ w'.cell? ⟨ob, oo + (k + 1) * 4 + 2, none⟩ = some (.int .i64 b.a) ∧ w'.cell? ⟨ob, oo + (k + 1) * 4 + 3, none⟩ = some (.int .i64 b.b)) ∧ Below w.heap.size w w')
      (first | with_reducible exact unhide HX _ (unhide HB2).drew | with_reducible exact unhide HX _ (one_below (unhide HB2) _) | with_reducible exact unhide HX _ (two_below (unhide HB2) _ _)) (fail)
    all_goals go_wp2_with fail
    all_goals go_meet
    all_goals
      case rel => first | exact two_1 _ _ _ | exact two_2 _ _ _
  case rest =>
    obtain ⟨ga, gb, rfl, rfl, hbA, hga, hgb⟩ := hcut
    obtain ⟨p0, p1, p2, p3⟩ := cells4 hga
    obtain ⟨q0, q1, q2, q3⟩ := cells4 hgb
    obtain ⟨ad, had⟩ : ∃ x, (a.k == 3 && b.k == 3) = x := ⟨_, rfl⟩
    have HAD := hide had
    clear had
    go_upto_region 6 with fail
    go_cut [9] (fun v9 wB => v9 = .bool ad ∧ wB = wc)
    case first =>
      by_cases ka : a.k = 3
      · by_cases kb : b.k = 3
        · have kb1 : (b.k == 3) = true := by simpa using kb
          have ka1 : (a.k == 3) = true := by simpa using ka
          go_wp2_with (fail)
          go_meet
          case rel => exact ⟨by rw [← unhide HAD, ka1, kb1]; rfl, rfl⟩
        · have kb1 : (b.k == 3) = false := by simpa using kb
          have ka1 : (a.k == 3) = true := by simpa using ka
          go_wp2_with (fail)
          go_meet
          case rel => exact ⟨by rw [← unhide HAD, ka1, kb1]; rfl, rfl⟩
      · have ka1 : (a.k == 3) = false := by simpa using ka
        go_wp2_with (fail)
        go_meet
        case rel => exact ⟨by rw [← unhide HAD, ka1]; rfl, rfl⟩
    case rest =>
      obtain ⟨rfl, rfl⟩ := hcut
      go_upto_region 7 with fail
      have hs2 := (unhide HB2).size
      have hBc : Below w.heap.size w wc := (unhide HB2).trans (hbA.mono hs2)
      have HBC := hide hBc
      obtain ⟨go, hgo⟩ : ∃ x, (a.p == b.p && !ad) = x := ⟨_, rfl⟩
      have HGO := hide hgo
      clear hgo hBc
      go_cut [60] (fun v60 wB => v60 = .bool go ∧ wB = wc)
      case first =>
        by_cases kp : a.p = b.p
        · have kp1 : (a.p == b.p) = true := by simpa using kp
          go_wp2_with fail
          go_meet
          case rel => exact ⟨by rw [← unhide HGO, kp1]; rfl, rfl⟩
        · have kp1 : (a.p == b.p) = false := by simpa using kp
          go_wp2_with fail
          go_meet
          case rel => exact ⟨by rw [← unhide HGO, kp1]; rfl, rfl⟩
      case rest =>
        obtain ⟨rfl, rfl⟩ := hcut
        cases go
        case true =>
          go_wp2_with fail
          go_ret
          exact ⟨rfl, unhide HBC⟩
        case false =>
          have HOW := hide (ownOps_any wc _ _ _ (Rd.below (unhide HV1) (unhide HBC)) (opsCells_one os) (by omega))
          go_upto_region 10 with (go_at_call 10; refine (unhide HOW).mono ?_; rintro e w3 ⟨vl, rfl, hl3, hb3⟩; have HL3 := hide hl3; have HB3 := hide hb3; clear hl3 hb3)
          obtain ⟨g, off, cap, rfl, hg, hth3⟩ : ∃ g off cap, vl = .slice (some ⟨g, off, none⟩) os.length cap ∧ wc.heap.size ≤ g ∧ w3.there g off (os.length * 4) := by
            obtain ⟨hl, ⟨rfl, h⟩ | ⟨g, cap, cur, h1, h2, h3, h4, h5, h6, h7⟩⟩ := unhide HL3
            · omega
            · exact ⟨g, 0, cap, h1, h2, there_own h3 (by omega)⟩
          have HO3 : Hid (IsOps w3 (.slice (some ⟨g, off, none⟩) os.length cap) os) := Rd.of_owns (unhide HL3)
          have HT3 := hide hth3
          have HG : Hid (∀ W, Below wc.heap.size wc W → W.there g off (os.length * 4) → (W.cell? ⟨ga, 0, none⟩ = some (.int .i64 a.k) ∧ W.cell? ⟨ga, 1, none⟩ = some (.int .i64 a.p) ∧ W.cell? ⟨ga, 2, none⟩ = some (.int .i64 a.a) ∧ W.cell? ⟨ga, 3, none⟩ = some (.int .i64 a.b)) ∧
              (W.cell? ⟨gb, 0, none⟩ = some (.int .i64 b.k) ∧ W.cell? ⟨gb, 1, none⟩ = some (.int .i64 b.p) ∧ W.cell? ⟨gb, 2, none⟩ = some (.int .i64 b.a) ∧ W.cell? ⟨gb, 3, none⟩ = some (.int .i64 b.b)) ∧ Below wc.heap.size wc W ∧ W.there g off (os.length * 4) ∧ ((W.cell? ⟨g, off + k * 4, none⟩ = some (cellOf W g (off + k * 4)) ∧ W.frozen? ⟨g, off + k * 4, none⟩ = false) ∧ (W.cell? ⟨g, off + k * 4 + 1, none⟩ = some (cellOf W g (off + k * 4 + 1)) ∧ W.frozen? ⟨g, off + k * 4 + 1, none⟩ = false) ∧ (W.cell? ⟨g, off + k * 4 + 2, none⟩ = some (cellOf W g (off + k * 4 + 2)) ∧ W.frozen? ⟨g, off + k * 4 + 2, none⟩ = false) ∧ (W.cell? ⟨g, off + k * 4 + 3, none⟩ = some (cellOf W g (off + k * 4 + 3)) ∧ W.frozen? ⟨g, off + k * 4 + 3, none⟩ = false)) ∧ ((W.cell? ⟨g, off + (k + 1) * 4, none⟩ = some (cellOf W g (off + (k + 1) * 4)) ∧ W.frozen? ⟨g, off + (k + 1) * 4, none⟩ = false) ∧ (W.cell? ⟨g, off + (k + 1) * 4 + 1, none⟩ = some (cellOf W g (off + (k + 1) * 4 + 1)) ∧ W.frozen? ⟨g, off + (k + 1) * 4 + 1, none⟩ = false) ∧ (W.cell? ⟨g, off + (k + 1) * 4 + 2, none⟩ = some (cellOf W g (off + (k + 1) * 4 + 2)) ∧ W.frozen? ⟨g, off + (k + 1) * 4 + 2, none⟩ = false) ∧ (W.cell? ⟨g, off + (k + 1) * 4 + 3, none⟩ = some (cellOf W g (off + (k + 1) * 4 + 3)) ∧ W.frozen? ⟨g, off + (k + 1) * 4 + 3, none⟩ = false))) := fun W hW hth =>
            have la := World.block_lt_of_cell? wc _ p0
            have lb := World.block_lt_of_cell? wc _ q0
            ⟨⟨(hW.cell (p := ⟨ga, 0, none⟩) la).trans p0, (hW.cell (p := ⟨ga, 1, none⟩) la).trans p1, (hW.cell (p := ⟨ga, 2, none⟩) la).trans p2, (hW.cell (p := ⟨ga, 3, none⟩) la).trans p3⟩,
             ⟨(hW.cell (p := ⟨gb, 0, none⟩) lb).trans q0, (hW.cell (p := ⟨gb, 1, none⟩) lb).trans q1, (hW.cell (p := ⟨gb, 2, none⟩) lb).trans q2, (hW.cell (p := ⟨gb, 3, none⟩) lb).trans q3⟩, hW, hth, four_there (there_part hth (by omega)), four_there (there_part hth (by omega))⟩
          go_cut [] (fun wB => Below wc.heap.size wc wB ∧ IsOps wB (.slice (some ⟨g, off, none⟩) os.length cap) (swapAt os k))
          case first =>
            obtain ⟨⟨x0, x1, x2, x3⟩, ⟨y0, y1, y2, y3⟩, _, _, _, _⟩ := unhide HG _ (unhide HB3) hth3
            go_region_held3 (fun w' => (w'.cell? ⟨ga, 0, none⟩ = some (.int .i64 a.k) ∧ w'.cell? ⟨ga, 1, none⟩ = some (.int .i64 a.p) ∧ w'.cell? ⟨ga, 2, none⟩ = some (.int .i64 a.a) ∧ w'.cell? ⟨ga, 3, none⟩ = some (.int .i64 a.b)) ∧
              (w'.cell? ⟨gb, 0, none⟩ = some (.int .i64 b.k) ∧ w'.cell? ⟨gb, 1, none⟩ = some (.int .i64 b.p) ∧ w'.cell? ⟨gb, 2, none⟩ = some (.int .i64 b.a) ∧ w'.cell? ⟨gb, 3, none⟩ = some (.int .i64 b.b)) ∧ Below wc.heap.size wc w' ∧ w'.there g off (os.length * 4) ∧ ((w'.cell? ⟨g, off + k * 4, none⟩ = some (cellOf w' g (off + k * 4)) ∧ w'.frozen? ⟨g, off + k * 4, none⟩ = false) ∧ (w'.cell? ⟨g, off + k * 4 + 1, none⟩ = some (cellOf w' g (off + k * 4 + 1)) ∧ w'.frozen? ⟨g, off + k * 4 + 1, none⟩ = false) ∧ (w'.cell? ⟨g, off + k * 4 + 2, none⟩ = some (cellOf w' g (off + k * 4 + 2)) ∧ w'.frozen? ⟨g, off + k * 4 + 2, none⟩ = false) ∧ (w'.cell? ⟨g, off + k * 4 + 3, none⟩ = some (cellOf w' g (off + k * 4 + 3)) ∧ w'.frozen? ⟨g, off + k * 4 + 3, none⟩ = false)) ∧ ((w'.cell? ⟨g, off + (k + 1) * 4, none⟩ = some (cellOf w' g (off + (k + 1) * 4)) ∧ w'.frozen? ⟨g, off + (k + 1) * 4, none⟩ = false) ∧ (w'.cell? ⟨g, off + (k + 1) * 4 + 1, none⟩ = some (cellOf w' g (off + (k + 1) * 4 + 1)) ∧ w'.frozen? ⟨g, off + (k + 1) * 4 + 1, none⟩ = false) ∧ (w'.cell? ⟨g, off + (k + 1) * 4 + 2, none⟩ = some (cellOf w' g (off + (k + 1) * 4 + 2)) ∧ w'.frozen? ⟨g, off + (k + 1) * 4 + 2, none⟩ = false) ∧ (w'.cell? ⟨g, off + (k + 1) * 4 + 3, none⟩ = some (cellOf w' g (off + (k + 1) * 4 + 3)) ∧ w'.frozen? ⟨g, off + (k + 1) * 4 + 3, none⟩ = false)))
              (first
                | with_reducible exact unhide HG _ (unhide HB3).drew (there_drew (unhide HT3))
                | with_reducible exact unhide HG _ (below_4 hg (unhide HB3) _ _ _ _ _ _ _ _).drew (there_drew (there_4 (unhide HT3) _ _ _ _ _ _ _ _ _))
                | with_reducible exact unhide HG _ (below_4 hg (below_4 hg (unhide HB3) _ _ _ _ _ _ _ _) _ _ _ _ _ _ _ _).drew (there_drew (there_4 (there_4 (unhide HT3) _ _ _ _ _ _ _ _ _) _ _ _ _ _ _ _ _ _))) (fail)
            all_goals go_wp2_with fail
            all_goals go_meet
            all_goals
              case rel => exact swap_way (unhide HB3) hg (unhide HO3) (unhide HT3) hk (unhide HEA) (unhide HEB)
          case rest =>
            rename_i w0c w4
            obtain ⟨hb4, ho4⟩ := hcut
            have hB4 := (unhide HBC).trans (hb4.mono (unhide HBC).size)
            have HB4 := hide hB4
            have HO4 := hide ho4
            have HBC4 := hide hb4
            clear hb4 ho4 hB4
            go_wp2_with fail
            refine (run_read _ _ zs _ os (Rd.below (unhide HV0) (unhide HB4)) (Rd.below (unhide HV1) (unhide HB4)) (unhide HF)).mono ?_
            rintro e w5 ⟨am, cm, at', ct, rfl, hm5, ht5, hb5⟩
            obtain ⟨b5, o5, c5, e5, lb5, hc5⟩ := IsInts.at ht5 (by rw [ranTold_length]; omega)
            rw [ranTold_length] at e5 hc5
            cases e5
            have HM5 := hide hm5; have H5 := hide hb5; have HC5 := hide hc5; have LB5 := hide lb5
            have HO5 := hide (Rd.below (unhide HO4) hb5)
            clear hm5 ht5 hb5 hc5 lb5
            go_wp2_with fail
            have HW5 : Hid (Below w.heap.size w (w5.alloc (.cells #[.int .i64 0, .int .i64 0] 27))) := ((unhide HB4).trans ((unhide H5).mono (unhide HB4).size)).alloc (Nat.le_trans (unhide HB4).size (unhide H5).size) _
            have HA5 : Hid (Below w5.heap.size w5 (w5.alloc (.cells #[.int .i64 0, .int .i64 0] 27))) := (Below.refl _ _).alloc (Nat.le_refl _) _
            refine (run_read _ _ zs _ (swapAt os k) (Rd.below (unhide HV0) (unhide HW5)) (Rd.below (unhide HO5) (unhide HA5)) (swap_fault hk (unhide HF))).mono ?_
            rintro e w6 ⟨am2, cm2, at2, ct2, rfl, hm6, ht6, hb6⟩
            rw [swap_length] at ht6 ⊢
            obtain ⟨b6, o6, c6, e6, lb6, hc6⟩ := IsInts.at ht6 (by rw [ranTold_length, swap_length]; omega)
            rw [ranTold_length, swap_length] at e6 hc6
            cases e6
            have HM6 := hide hm6; have H6 := hide hb6; have HC6 := hide hc6; have LB6 := hide lb6
            have f1 : w6.cell? ⟨w5.heap.size, 0, none⟩ = some (.int .i64 0) := (hb6.cell (p := ⟨w5.heap.size, 0, none⟩) (by rw [World.size_alloc]; exact Nat.lt_succ_self _)).trans (cell_new w5 _ _)
            have hs6 : w5.heap.size < w6.heap.size := Nat.lt_of_lt_of_le (by rw [World.size_alloc]; exact Nat.lt_succ_self _) hb6.size
            clear hm6 ht6 hb6 hc6 lb6
            go_wp2_with fail
            obtain ⟨_, hpa0, hpa1⟩ := wrong_none (unhide HALL k (by omega))
            obtain ⟨_, hpb0, hpb1⟩ := wrong_none (unhide HALL (k + 1) (by omega))
            have hdiff : (opAtD os k).p ≠ (opAtD os (k + 1)).p ∨ (opAtD os k).k = 3 ∧ (opAtD os (k + 1)).k = 3 := by
              have g1 := unhide HGO
              have g2 := unhide HAD
              rw [unhide HEA, unhide HEB]
              by_cases e : a.p = b.p
              · right
                have : (a.p == b.p) = true := by simpa using e
                rw [this, ← g2] at g1
                simpa using g1
              · exact Or.inl e
            have hsame := swap_same hk (zs := zs) ⟨hpa0, hpa1⟩ hpb0 hdiff
            clear hpa0 hpa1 hpb0 hpb1 hdiff
            have HSA := hide hsame
            clear hsame
            have HW6 : Hid (Below w5.heap.size w5 (w6.alloc (.cells #[.int .i64 0, .int .i64 0] 27))) := (below_step (Below.refl _ _) (unhide H6) (Nat.le_refl _)).alloc (Nat.le_of_lt hs6) _
            have HA6 : Hid (Below w6.heap.size w6 (w6.alloc (.cells #[.int .i64 0, .int .i64 0] 27))) := (Below.refl _ _).alloc (Nat.le_refl _) _
            refine (ints_same _ _ _ (ranMem zs os) (Rd.below (unhide HM5) (unhide HW6)) (by rw [← (unhide HSA).1]; exact Rd.below (unhide HM6) (unhide HA6)) (by rw [ranMem_length]; unfold maxLen; omega)).mono ?_
            rintro e w7 ⟨rfl, hb7⟩
            have HW7 : Hid (Below w5.heap.size w5 w7) := (unhide HW6).trans (hb7.mono (unhide HW6).size)
            have HS7 : Hid (Below w6.heap.size w6 w7) := (unhide HA6).trans (hb7.mono (unhide HA6).size)
            have HB7 : Hid (Below w.heap.size w w7) := (unhide HB4).trans ((Below.trans (unhide H5) ((unhide HW7).mono (unhide H5).size)).mono (unhide HB4).size)
            have HC7 := hide ((unhide HBC4).trans ((Below.trans (unhide H5) ((unhide HW7).mono (unhide H5).size)).mono (unhide HBC4).size))
            have la := World.block_lt_of_cell? _ _ p0
            have lb := World.block_lt_of_cell? _ _ q0
            have p17 := ((unhide HC7).cell (p := ⟨ga, 1, none⟩) la).trans p1
            have q17 := ((unhide HC7).cell (p := ⟨gb, 1, none⟩) lb).trans q1
            have s0 := ((unhide HW7).cell (p := ⟨b5, o5 + k, none⟩) (unhide LB5)).trans (unhide HC5 k (by omega))
            have s1 := ((unhide HW7).cell (p := ⟨b5, o5 + (k + 1), none⟩) (unhide LB5)).trans (unhide HC5 (k + 1) (by omega))
            have t0 := ((unhide HS7).cell (p := ⟨b6, o6 + k, none⟩) (unhide LB6)).trans (unhide HC6 k (by omega))
            have t1 := ((unhide HS7).cell (p := ⟨b6, o6 + (k + 1), none⟩) (unhide LB6)).trans (unhide HC6 (k + 1) (by omega))
            obtain ⟨x0, ex0⟩ : ∃ x, (ranTold zs os).getD k 0 = x := ⟨_, rfl⟩
            obtain ⟨x1, ex1⟩ : ∃ x, (ranTold zs os).getD (k + 1) 0 = x := ⟨_, rfl⟩
            obtain ⟨y0, ey0⟩ : ∃ x, (ranTold zs (swapAt os k)).getD k 0 = x := ⟨_, rfl⟩
            obtain ⟨y1, ey1⟩ : ∃ x, (ranTold zs (swapAt os k)).getD (k + 1) 0 = x := ⟨_, rfl⟩
            rw [ex0] at s0
            rw [ex1] at s1
            rw [ey0] at t0
            rw [ey1] at t1
            have HEQ : Hid (a.p ≠ b.p → x0 = y1 ∧ x1 = y0) := fun h => by
              have := (unhide HSA).2 (by rw [unhide HEA, unhide HEB]; exact h)
              rw [ex0, ex1, ey0, ey1] at this
              exact this
            clear ex0 ex1 ey0 ey1 HSA f1 hs6 la lb p0 p1 p2 p3 q0 q1 q2 q3 hga hgb hth3 hb7
            go_upto_region 15 with fail
            by_cases e : a.p = b.p
            · have e1 : (a.p == b.p) = true := by simpa using e
              go_quiet (fail)
              all_goals go_wp2_with fail
              all_goals go_ret
              all_goals exact ⟨rfl, below_drewN (unhide HB7) _⟩
            · have e1 : (a.p == b.p) = false := by simpa using e
              obtain ⟨rfl, rfl⟩ := unhide HEQ e
              have e2 : (x0 == x0) = true := by simp
              have e3 : (x1 == x1) = true := by simp
              go_quiet (fail)
              all_goals go_wp2_with fail
              all_goals go_ret
              all_goals exact ⟨rfl, below_drewN (unhide HB7) _⟩

theorem places_walk (w : World) (v0 v1 : Value) (zs : List Int) (os : List Op4) (i : Int) (h0 : IsInts w v0 zs) (h1 : IsOps w v1 os) (lz : zs.length * 8 ≤ 140737488355328) (lo : os.length * 32 ≤ 140737488355328) (_ : (Lit.int .i64 i).wf = true) :
    Calls Tryd.prog 7 #[v0, v1, .int .i64 i] w fun e w' => e = .returned (.bool true) ∧ Below w.heap.size w w' := by
  obtain ⟨a0, c0, rfl⟩ := Rd.form h0
  obtain ⟨a1, c1, rfl⟩ := Rd.form h1
  by_cases hf : (fault zs.length os).1 = 0
  · by_cases hi : i < 0 ∨ (os.length : Int) - 1 ≤ i
    · exact places_A w a0 a1 c0 c1 zs os i h1 (by unfold maxLen; omega) (by unfold maxLen; omega) _ _ rfl (Or.inr hi)
    · obtain ⟨k, rfl⟩ : ∃ k : Nat, i = k := ⟨i.toNat, by omega⟩
      have hk : k + 1 < os.length := by omega
      obtain ⟨b, off, c, e, hb, hK, hP, hA, hB⟩ := IsOps.at h1 (by omega)
      cases e
      exact places_main w a0 c0 b off _ k zs os h0 h1 hf hk hb hK hP hA hB
  · exact places_A w a0 a1 c0 c1 zs os i h1 (by unfold maxLen; omega) (by unfold maxLen; omega) _ _ rfl (Or.inl hf)
end Go.Proofs.YtpgokeogijpmaaaDoor
