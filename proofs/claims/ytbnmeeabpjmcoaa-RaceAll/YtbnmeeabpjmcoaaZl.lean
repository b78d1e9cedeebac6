/-
  taskmillref.Reach: which events happen before each.
-/
import Derived.Test.YtbnmeeabpjmcoaaZk
namespace Go.Proofs.Ytbnmeeabpjmcoaa
open Go.RowKit

set_option maxRecDepth 100000 in
set_option maxHeartbeats 4000000 in
theorem reach_any (w : World) (a0 : Option Addr) (n0 c0 : Nat) (a1 : Option Addr) (n1 c1 : Nat) (l : List Ev) (hs : List Int) (hl : IsL KE w (.slice a0 n0 c0) l) (hh : IsL KI w (.slice a1 n1 c1) hs) (hg : GoodT hs l) :
    Calls Try.prog 19 #[.slice a0 n0 c0, .slice a1 n1 c1] w fun e w' => ∃ R, e = .returned (.slice (some ⟨R, 0, none⟩) n0 n0) ∧ ∃ bf M, RowsB w' R n0 n0 bf M ∧ Tells n0 M (fun k j => Rch hs l j k) ∧ w.heap.size ≤ R ∧ Below w.heap.size w w' := by
  have hln := hl.len
  have hn : n0 ≤ 2000 := by rw [← hln]; exact hg.n
  have HED : Hid (Calls Try.prog 36 #[.slice a0 n0 c0, .slice a1 n1 c1] w fun e w' => ∃ vf L, e = .returned (.slice (some ⟨w.heap.size, 0, none⟩) n0 n0) ∧ RowsE (w.heap.size + 1 + 1) w' w.heap.size n0 vf L ∧ Ed n0 (Edge hs l) L 20200000 ∧ Below w.heap.size w w') := edges_any w a0 n0 c0 a1 n1 c1 l hs hl hh hg
  obtain ⟨A, hA, hmk⟩ := make_boolrows n0 hn
  obtain ⟨B, hB, hmk2⟩ := make_bools n0 hn
  have HMK2 := hide hmk2
  have HBB := hide hB
  have HAA := hide hA
  have HLN := hide hln
  clear hl hh hg hln hmk2 hB hA
  go_enter Try.func19, Try.ntmps19
  go_upto_region 2 with (go_at_call 36; (with_reducible refine Calls.mono (unhide HED) ?_); rintro e w1 ⟨vf, L, rfl, hE1, hE2, hb1⟩; have HE1 := hide hE1; have HE2 := hide hE2; have HX1 := hide hb1; clear hE1 hE2 hb1)
  obtain ⟨G, eG⟩ : ∃ X, w.heap.size = X := ⟨_, rfl⟩
  rw [eG]
  rw [eG] at HE1
  clear HED
  go_upto_region 3 with fail
  have HR2 : Hid (RowsB (w1.alloc (.cells A 42)) w1.heap.size n0 0 (fun _ => 0) (fun _ _ => false)) := ⟨there_block (new_block w1 _) (by rw [unhide HAA]; omega), by simp, fun k hk => absurd hk (Nat.not_lt_zero _), fun k hk => absurd hk (Nat.not_lt_zero _), fun k hk => absurd hk (Nat.not_lt_zero _), fun k hk => absurd hk (Nat.not_lt_zero _), fun k k' hk => absurd hk (Nat.not_lt_zero _)⟩
  have HX2 : Hid (Below w1.heap.size w1 (w1.alloc (.cells A 42))) := (Below.refl _ _).alloc (Nat.le_refl _) _
  obtain ⟨R, eR⟩ : ∃ X, w1.heap.size = X := ⟨_, rfl⟩
  have HRR := hide eR
  obtain ⟨W2, e2⟩ : ∃ X, w1.alloc (.cells A 42) = X := ⟨_, rfl⟩
  rw [eR, e2] at HR2 HX2
  rw [eR, e2]
  clear eR e2 hmk eG
  go_wp2_with fail
  go_loopw [7] (fun s wr => ∃ (k : Nat) (bf : Nat → Nat), k ≤ n0 ∧ s = .int .i64 (k : Int) ∧ Hid (RowsB wr R n0 k bf (fun _ _ => false)) ∧ Hid (Below R w1 wr)) (fun s _ => n0 - (intOf s).toNat)
  case atStart => exact ⟨0, _, Nat.zero_le _, rfl, HR2, HX2⟩
  case round =>
    obtain ⟨k, bf, hk, rfl, HRk, HBk⟩ := hrel
    clear HR2 HX2
    by_cases hlt : k < n0
    · have i0 : (0 : Int) ≤ (k : Int) := by omega
      have i1 : (k : Int) < (n0 : Int) := by omega
      have hw1 : IntKind.i64.wrap ((k : Int) + 1) = (k : Int) + 1 := wrapi (by omega) (by omega)
      have HRn := hide ((unhide HRk).make hlt (unhide HBB))
      have HBn := hide (((unhide HBk).alloc (by have := (unhide HRk).lt; omega) (.cells B 4)).setCell (p := ⟨R, k, none⟩) (Nat.le_refl R) (.slice (some ⟨wr.heap.size, 0, none⟩) n0 n0))
      have hmk3 := unhide HMK2 wr
      have h6 := (((unhide HRk).below ((Below.refl wr.heap.size wr).alloc (Nat.le_refl _) (.cells B 4))).there k hlt)
      rw [Nat.zero_add] at h6
      obtain ⟨W6, e6⟩ : ∃ X, wr.alloc (.cells B 4) = X := ⟨_, rfl⟩
      rw [e6] at HRn HBn hmk3 h6
      clear e6
      obtain ⟨h7, f6⟩ := h6
      obtain ⟨y6, c6⟩ := Option.isSome_iff_exists.1 h7
      clear h7
      go_wp2_with fail
      go_roundw
      case rel => exact ⟨k + 1, _, by omega, by go_num, HRn, HBn⟩
      case measure => simp [intOf]; omega
    · obtain rfl : k = n0 := by omega
      have i1 : ¬ (k : Int) < (k : Int) := by omega
      have HT0 : Hid (Tells k (fun _ _ => false) (RI hs l 0)) := fun a b _ _ => ⟨fun q => (by cases q), fun ⟨y, q, _⟩ => absurd q (Nat.not_lt_zero _)⟩
      have HEW : Hid (∀ W, Below R w1 W → RowsE (G + 1 + 1) W G k vf L) := fun W hW => (unhide HE1).below (by rw [unhide HRR]; exact hW)
      clear HMK2 HBB HAA HE1
      go_wp2_with fail
      go_loopw [8] (fun s wr => ∃ (i : Nat) (M : Nat → Nat → Bool), i ≤ k ∧ s = .int .i64 (i : Int) ∧ Hid (RowsB wr R k k bf M) ∧ Hid (Tells k M (RI hs l i)) ∧ Hid (Below R w1 wr)) (fun s _ => k - (intOf s).toNat)
      case atStart => exact ⟨0, _, Nat.zero_le _, rfl, HRk, HT0, HBk⟩
      case round =>
        obtain ⟨i, M, hi, rfl, HRi, HTi, HBi⟩ := hrel
        clear HRk HT0 HBk
        by_cases hik : i < k
        · have i2 : (0 : Int) ≤ (i : Int) := by omega
          have i3 : (i : Int) < (k : Int) := by omega
          have hw2 : IntKind.i64.wrap ((i : Int) + 1) = (i : Int) + 1 := wrapi (by omega) (by omega)
          obtain ⟨Li, eLi⟩ : ∃ X, L i = X := ⟨_, rfl⟩
          have hfm := ((unhide HEW _ (unhide HBi)).own i hik).form
          have hlen := (unhide HE2).len i hik
          rw [eLi] at hfm hlen
          obtain ⟨m, em⟩ : ∃ X, Li.length = X := ⟨_, rfl⟩
          rw [em] at hfm hlen
          obtain ⟨ai, ci, evi⟩ := hfm
          have HLI := hide eLi
          have HLM := hide em
          have HIK := hide hik
          have HOE : Hid (∀ W, Below R w1 W → W.cell? ⟨G, i, none⟩ = some (.slice ai m ci) ∧ IsL KI W (.slice ai m ci) Li) := fun W hW => by
            have h1 := (unhide HEW W hW).cell i (unhide HIK)
            have h2 := ((unhide HEW W hW).own i (unhide HIK)).isl
            rw [evi] at h1 h2
            rw [unhide HLI] at h2
            exact ⟨h1, h2⟩
          have HT1 : Hid (Tells k M (fun a b => RX hs l Li i 0 a b)) := (unhide HTi).congr (fun a b _ _ => rx_zero.symm)
          clear eLi em
          go_wp2_with fail
          go_loopw [9] (fun s wr => ∃ (x : Nat) (M : Nat → Nat → Bool), x ≤ m ∧ s = .int .i64 (x : Int) ∧ Hid (RowsB wr R k k bf M) ∧ Hid (Tells k M (fun a b => RX hs l Li i x a b)) ∧ Hid (Below R w1 wr)) (fun s _ => m - (intOf s).toNat)
          case atStart => exact ⟨0, M, Nat.zero_le _, rfl, HRi, HT1, HBi⟩
          case round =>
            obtain ⟨x, M2, hx, rfl, HRx, HTx, HBx⟩ := hrel
            clear HRi HT1 HBi HTi
            obtain ⟨v0, v1⟩ := unhide HOE _ (unhide HBx)
            have HV1 := hide v1
            clear v1
            by_cases hxm : x < m
            · have i4 : (0 : Int) ≤ (x : Int) := by omega
              have i5 : (x : Int) < (m : Int) := by omega
              have hw3 : IntKind.i64.wrap ((x : Int) + 1) = (x : Int) + 1 := wrapi (by omega) (by omega)
              obtain ⟨z, hz⟩ : ∃ z, Li[x]? = some z := ⟨_, List.getElem?_eq_getElem (by rw [unhide HLM]; exact hxm)⟩
              obtain ⟨k0, ez, hk1, hk2, _⟩ := (unhide HE2).ok i hik z (by rw [unhide HLI]; exact List.mem_of_getElem? hz)
              subst ez
              obtain ⟨b, o, rfl, hbs, hli⟩ := (unhide HV1).opens ki (unhide HLM) (by omega)
              have hgz := hli.ints (j := x) (by rw [unhide HLM]; exact hxm)
              rw [show Li.getD x 0 = (k0 : Int) by rw [List.getD_eq_getElem?_getD, hz]; rfl] at hgz
              have HZ := hide hz
              have j0 : (0 : Int) ≤ (k0 : Int) := by omega
              have j1 : (k0 : Int) < (k : Int) := by omega
              have HK0 := hide hk2
              have HIK0 := hide hk1
              have u0 := (unhide HRx).cell k0 hk2
              have u1 := (unhide HRx).row k0 hk2 i hik
              have u2 := ((unhide HRx).rth k0 hk2 i hik).2
              rw [Nat.zero_add] at u2
              have HBK : Hid (R ≤ bf k0) := by have := ((unhide HRx).blk k0 hk2).1; show _ ≤ _; omega
              have HR6 := hide ((unhide HRx).put hk2 hik true)
              have HT6 : Hid (Tells k (fun a c => if a = k0 ∧ c = i then true else M2 a c) (fun a b => RJ hs l Li i x k0 0 a b)) := ((unhide HTx).put k0 i).congr (fun a b _ _ => rj_begin)
              have HB6 := hide ((unhide HBx).setCell (p := ⟨bf k0, i, none⟩) (unhide HBK) (.bool true))
              obtain ⟨M6, e6⟩ : ∃ X, (fun a c => if a = k0 ∧ c = i then true else M2 a c) = X := ⟨_, rfl⟩
              rw [e6] at HR6 HT6
              clear hz hk1 hk2 hli e6
              go_upto_region 15 with fail
              obtain ⟨W6, e7⟩ : ∃ X, wr.setCell ⟨bf k0, i, none⟩ (.bool true) = X := ⟨_, rfl⟩
              rw [e7] at HR6 HB6
              rw [e7]
              clear e7 u0 u1 u2 v0 hgz
              go_wp2_with fail
              go_loopw [11] (fun s wr => ∃ (c : Nat) (M : Nat → Nat → Bool), c ≤ i ∧ s = .int .i64 (c : Int) ∧ Hid (RowsB wr R k k bf M) ∧ Hid (Tells k M (fun a b => RJ hs l Li i x k0 c a b)) ∧ Hid (Below R w1 wr)) (fun s _ => i - (intOf s).toNat)
              case atStart => exact ⟨0, M6, Nat.zero_le _, rfl, HR6, HT6, HB6⟩
              case round =>
                obtain ⟨c, M3, hc, rfl, HRc, HTc, HBc⟩ := hrel
                clear HR6 HT6 HB6
                by_cases hci : c < i
                · have i6 : (0 : Int) ≤ (c : Int) := by omega
                  have i7 : (c : Int) < (i : Int) := by omega
                  have i8 : (c : Int) < (k : Int) := by omega
                  have hw4 : IntKind.i64.wrap ((c : Int) + 1) = (c : Int) + 1 := wrapi (by omega) (by omega)
                  have hcn : c < k := by omega
                  have HCN := hide hcn
                  have hb2 : M3 i c = true ↔ Rch hs l c i := ((unhide HTc) i c hik hcn).trans (rj_self (fun z hz => by
                    obtain ⟨b', e', q1, _⟩ := (unhide HE2).ok i hik z (by rw [unhide HLI]; exact hz)
                    rw [e']
                    exact Int.ofNat_lt.2 q1) (unhide HIK0))
                  have HTN := hide (((unhide HTc).put2 (k0 := k0) (j0 := c) hb2).congr (fun a b _ _ => rj_succ))
                  have u0 := (unhide HRc).cell k0 (unhide HK0)
                  have u1 := (unhide HRc).cell i hik
                  have u2 := (unhide HRc).row k0 (unhide HK0) c hcn
                  have u3 := (unhide HRc).row i hik c hcn
                  have u4 := ((unhide HRc).rth k0 (unhide HK0) c hcn).2
                  rw [Nat.zero_add] at u4
                  obtain ⟨b2, e2⟩ : ∃ X, M3 i c = X := ⟨_, rfl⟩
                  obtain ⟨b1, e1⟩ : ∃ X, M3 k0 c = X := ⟨_, rfl⟩
                  rw [e2] at u3 HTN
                  rw [e1] at u2 HTN
                  clear hb2 e1 e2 hcn
                  cases b1
                  · rw [Bool.false_or] at HTN
                    go_upto_region 18 with fail
                    go_region
                    go_wp2_with fail
                    go_roundw
                    case rel => exact ⟨c + 1, _, by omega, by go_num, hide (((unhide HRc).below (Below.refl _ _).drew).put (unhide HK0) (unhide HCN) b2), hide (unhide HTN), hide ((unhide HBc).drew.setCell (p := ⟨bf k0, c, none⟩) (unhide HBK) _)⟩
                    case measure => simp [intOf]; omega
                  · rw [Bool.true_or] at HTN
                    go_upto_region 18 with fail
                    go_region
                    go_wp2_with fail
                    go_roundw
                    case rel => exact ⟨c + 1, _, by omega, by go_num, hide (((unhide HRc).below (Below.refl _ _).drew).put (unhide HK0) (unhide HCN) true), hide (unhide HTN), hide ((unhide HBc).drew.setCell (p := ⟨bf k0, c, none⟩) (unhide HBK) _)⟩
                    case measure => simp [intOf]; omega
                · obtain rfl : c = i := by omega
                  have i6 : ¬ (c : Int) < (c : Int) := by omega
                  have HTE := hide ((unhide HTc).congr (fun a b _ _ => rj_end (unhide HZ)))
                  go_wp2_with fail
                  go_roundw
                  case rel => exact ⟨x + 1, M3, by omega, by go_num, HRc, HTE, HBc⟩
                  case measure => simp [intOf]; omega
            · obtain rfl : x = m := by omega
              have i4 : ¬ (x : Int) < (x : Int) := by omega
              have HTE : Hid (Tells k M2 (RI hs l (i + 1))) := (unhide HTx).congr (fun a b _ _ => by
                have h_ := rx_end (hs := hs) (l := l) (k := a) (j := b) (unhide HE2) hik (unhide HLN)
                rw [unhide HLI, unhide HLM] at h_
                exact h_)
              go_wp2_with fail
              go_roundw
              case rel => exact ⟨i + 1, M2, by omega, by go_num, HRx, HTE, HBx⟩
              case measure => simp [intOf]; omega
        · obtain rfl : i = k := by omega
          have i2 : ¬ (i : Int) < (i : Int) := by omega
          have HTE : Hid (Tells i M (fun a b => Rch hs l b a)) := (unhide HTi).congr (fun a b ha _ => ri_end (Nat.le_of_lt ha))
          have hle : w.heap.size ≤ R := by rw [← unhide HRR]; exact (unhide HX1).size
          have hbe : Below w.heap.size w wr := (unhide HX1).trans ((unhide HBi).mono hle)
          have HLE := hide hle
          have HBE := hide hbe
          clear hle hbe
          go_wp2_with fail
          go_ret
          exact ⟨R, rfl, bf, M, unhide HRi, unhide HTE, unhide HLE, unhide HBE⟩
end Go.Proofs.Ytbnmeeabpjmcoaa
