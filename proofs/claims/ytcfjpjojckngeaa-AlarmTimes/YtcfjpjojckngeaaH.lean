/-
  A timer sinks: alarm.sink, taskmillref.Sunk.
-/
import Derived.Test.YtcfjpjojckngeaaG
import Derived.WalkMore
namespace Go.Proofs.Ytcfjpjojckngeaa
open Go.RowKit

/-- The timer at i sinks, so many times at most. -/
def sinkF : Nat → List Tm → Nat → List Tm
  | 0, ts, _ => ts
  | f + 1, ts, i => if soonL ts i = i then ts else sinkF f (swapT ts i (soonL ts i)) (soonL ts i)
def sinkL (ts : List Tm) (i : Nat) : List Tm := sinkF ts.length ts i
theorem sinkF_stop {f : Nat} {ts : List Tm} {i : Nat} (h : soonL ts i = i) : sinkF f ts i = ts := by
  cases f with
  | zero => rfl
  | succ f => rw [sinkF, if_pos h]
theorem sinkF_go {f : Nat} {ts : List Tm} {i K : Nat} (hK : soonL ts i = K) (h : K ≠ i) (hf : 0 < f) : sinkF f ts i = sinkF (f - 1) (swapT ts i K) K := by
  obtain ⟨f, rfl⟩ : ∃ f', f = f' + 1 := ⟨f - 1, by omega⟩
  rw [sinkF, hK, if_neg h]
  rfl
theorem sinkF_length : ∀ (f : Nat) (ts : List Tm) (i : Nat), (sinkF f ts i).length = ts.length
  | 0, _, _ => rfl
  | f + 1, ts, i => by
    rw [sinkF]
    split
    · rfl
    · rw [sinkF_length f, swapT_length]
theorem sinkL_length (ts : List Tm) (i : Nat) : (sinkL ts i).length = ts.length := sinkF_length _ _ _

set_option maxRecDepth 100000 in
set_option maxHeartbeats 2000000 in
theorem sink_any (w : World) (g c n i : Nat) (ts : List Tm) (hl : ts.length = n) (hi : i < n) (hn : n ≤ 10000) (h : Row w g c ts) :
    Calls Try.prog 33 #[.slice (some ⟨g, 0, none⟩) n c, .int .i64 i] w fun e w' => e = .returned (.tuple #[]) ∧ Row w' g c (sinkL ts i) ∧ But g w w' := by
  obtain ⟨R, hR⟩ : ∃ R, R = sinkL ts i := ⟨_, rfl⟩
  rw [← hR]
  have HE : Hid (R = sinkF n ts i) := by rw [hR, ← hl]; rfl
  have HL := hide hl
  have HW := hide h
  clear h hR hl
  go_enter Try.func33, Try.ntmps33
  go_wp2
  go_step3
  go_wp2
  go_step3
  go_wp2
  go_loopw [1] (fun si wr => ∃ (j f : Nat) (us : List Tm), si = .int .i64 j ∧ j < n ∧ n ≤ j + f ∧ us.length = n ∧ R = sinkF f us j ∧ Row wr g c us ∧ But g w wr) (fun si _ => n - (intOf si).toNat)
  case atStart => exact ⟨i, n, ts, rfl, hi, by omega, unhide HL, unhide HE, unhide HW, But.refl _ _⟩
  case round =>
    clear HW HE
    obtain ⟨j, f, us, rfl, hj, hjf, hul, hE, hrow, hbut⟩ := hrel
    have HE := hide hE; have HU := hide hul; have HW := hide hrow; have HT := hide hbut
    have HSO := hide (soonest_any wr g c n j us hul hj hn hrow)
    obtain ⟨K, hK⟩ : ∃ K, soonL us j = K := ⟨_, rfl⟩
    have hcs := soonL_cases us j
    rw [hK] at HSO hcs
    rw [hul] at hcs
    have HK := hide hK
    clear hE hul hbut hrow hK
    by_cases hKj : K = j
    · subst hKj
      have HER := hide ((unhide HE).trans (sinkF_stop (unhide HK)))
      have e1 : ((K : Int) == (K : Int)) = true := by simp
      clear hcs
      go_wp2_with (go_at_call 34; refine (unhide HSO).mono ?_; rintro e w4 ⟨rfl, hb4⟩; have HB4 := hide hb4; clear hb4)
      rw [Exit.noGoto_normal]
      refine bodyPost_end (v := .tuple #[]) ?_ rfl ⟨rfl, by rw [unhide HER]; exact (unhide HW).below (unhide HB4) (unhide HW).lt, (unhide HT).call (unhide HB4)⟩
      simp [results, Try.results33]
    · have hKn : K < n := by omega
      have hjK : j < K := by omega
      have e1 : ((K : Int) == (j : Int)) = false := by simp; omega
      obtain ⟨x, y, hxy⟩ : ∃ x y, tAt us j = (x, y) := ⟨_, _, rfl⟩
      obtain ⟨u, v, huv⟩ : ∃ u v, tAt us K = (u, v) := ⟨_, _, rfl⟩
      have HC : Hid (∀ W, Row W g c us → W.cell? ⟨g, j * 2, none⟩ = some (.int .i64 x) ∧ W.cell? ⟨g, j * 2 + 1, none⟩ = some (.int .i64 y) ∧ W.cell? ⟨g, K * 2, none⟩ = some (.int .i64 u) ∧ W.cell? ⟨g, K * 2 + 1, none⟩ = some (.int .i64 v) ∧ W.frozen? ⟨g, j * 2, none⟩ = false ∧ W.frozen? ⟨g, j * 2 + 1, none⟩ = false ∧ W.frozen? ⟨g, K * 2, none⟩ = false ∧ W.frozen? ⟨g, K * 2 + 1, none⟩ = false) := fun W hW =>
        have h1 := hW.at (by rw [unhide HU]; exact hj) hxy
        have h2 := hW.at (by rw [unhide HU]; exact hKn) huv
        ⟨h1.1, h1.2, h2.1, h2.2, hW.free _, hW.free _, hW.free _, hW.free _⟩
      have HSW : Hid (∀ W, Row W g c us → Row (put2 (put2 W g (j * 2) (u, v)) g (K * 2) (x, y)) g c (swapT us j K)) := fun W hW => hW.swap hxy huv
      clear hxy huv hcs
      have g2 : (0 : Int) ≤ (K : Int) := by omega
      have g3 : (K : Int) < (n : Int) := by omega
      have g4 : (0 : Int) ≤ (j : Int) := by omega
      have g5 : (j : Int) < (n : Int) := by omega
      have n1 : j * 2 ≠ K * 2 := by omega
      have n2 : j * 2 ≠ K * 2 + 1 := by omega
      have n3 : j * 2 + 1 ≠ K * 2 := by omega
      have n4 : j * 2 + 1 ≠ K * 2 + 1 := by omega
      have m1 : K * 2 ≠ j * 2 := by omega
      have m2 : K * 2 + 1 ≠ j * 2 := by omega
      have m3 : K * 2 ≠ j * 2 + 1 := by omega
      have m4 : K * 2 + 1 ≠ j * 2 + 1 := by omega
      go_upto_region 2 with (go_at_call 34; refine (unhide HSO).mono ?_; rintro e w4 ⟨rfl, hb4⟩; have HB4 := hide hb4; clear hb4)
      have HW4 := hide ((unhide HW).below (unhide HB4) (unhide HW).lt)
      have HT4 := hide ((unhide HT).call (unhide HB4))
      obtain ⟨k0, k1, l0, l1, f0, f1, f2, f3⟩ := unhide HC _ (unhide HW4)
      go_region
      go_wp2_with fail
      go_roundw
      case rel => exact ⟨K, f - 1, swapT us j K, by go_num, by omega, by omega, by rw [swapT_length]; exact unhide HU, (unhide HE).trans (sinkF_go (unhide HK) hKj (by omega)), unhide HSW _ (unhide HW4), ((unhide HT4).swap _ _ (u, v) (x, y)).drew⟩
      case measure => simp [intOf]; omega

set_option maxRecDepth 100000 in
set_option maxHeartbeats 2000000 in
theorem sunk_any (w : World) (v : Value) (ts : List Tm) (n i : Nat) (hl : ts.length = n) (hi : i < n) (hn : n ≤ 10000) (h : IsTs w v ts) :
    Calls Try.prog 30 #[v, .int .i64 i] w fun e w' => ∃ g c, e = .returned (.slice (some ⟨g, 0, none⟩) n c) ∧ w.heap.size ≤ g ∧ Row w' g c (sinkL ts i) ∧ Below w.heap.size w w' := by
  obtain ⟨a, ca, rfl⟩ := Rd.form h
  rw [hl]
  have HR := hide h
  rw [hl] at HR
  obtain ⟨R, hR⟩ : ∃ R, R = sinkL ts i := ⟨_, rfl⟩
  rw [← hR]
  have HE : Hid (R = sinkF n ts i) := by rw [hR, ← hl]; rfl
  have HL := hide hl
  clear h hR hl
  go_enter Try.func30, Try.ntmps30
  go_wp2_with (at_builtin; refine wpList_append_ts rfl (.const (.slice none 0 0)) (.tmp 7) rfl w.heap.size _ [] rfl (own_nil _ _) _ ts rfl (unhide HR) n (by rw [unhide HL]; simp) (by omega) (Nat.le_refl _) ?_; intro a1 c1 w1 ho hg; have HO := hide (own_nil_append ho); have HB := hide ((Below.refl w.heap.size w).grown hg (Nat.le_refl _) (fun k hk => by cases hk)); clear ho hg)
  obtain ⟨g, c, ev, hgw, hrow⟩ := (unhide HO).row (by rw [unhide HL]; omega)
  rw [unhide HL] at ev
  cases ev
  have HW := hide hrow
  clear hrow HO
  go_loopw [1] (fun si wr => ∃ (j f : Nat) (us : List Tm), si = .int .i64 j ∧ j < n ∧ n ≤ j + f ∧ us.length = n ∧ R = sinkF f us j ∧ Row wr g c1 us ∧ But g w1 wr) (fun si _ => n - (intOf si).toNat)
  case atStart => exact ⟨i, n, ts, rfl, hi, by omega, unhide HL, unhide HE, unhide HW, But.refl _ _⟩
  case round =>
    clear HW HE HR
    obtain ⟨j, f, us, rfl, hj, hjf, hul, hE, hrow, hbut⟩ := hrel
    have HE := hide hE; have HU := hide hul; have HW := hide hrow; have HT := hide hbut
    obtain ⟨e, he⟩ : ∃ e, min (4 * j + 5) n = e := ⟨_, rfl⟩
    obtain ⟨K, hK⟩ : ∃ K, soonL us j = K := ⟨_, rfl⟩
    have hcs := soonL_cases us j
    rw [hK, hul] at hcs
    have HK := hide hK
    have HKE : Hid (K = soonF us (e - (4 * j + 1)) (4 * j + 1) j) := by rw [← hK, ← he, ← hul]; rfl
    have HEE := hide he
    clear hE hul hbut hrow hK he
    have w1' : IntKind.i64.wrap (4 * (j : Int)) = 4 * (j : Int) := by simp [IntKind.wrap, IntKind.bits, IntKind.signed]; omega
    have w2' : IntKind.i64.wrap (4 * (j : Int) + 1) = 4 * (j : Int) + 1 := by simp [IntKind.wrap, IntKind.bits, IntKind.signed]; omega
    have w3' : IntKind.i64.wrap (4 * (j : Int) + 4) = 4 * (j : Int) + 4 := by simp [IntKind.wrap, IntKind.bits, IntKind.signed]; omega
    go_wp2_with fail
    go_loopw [5, 6] (fun sp sk wr2 => ∃ (k p : Nat), sk = .int .i64 k ∧ sp = .int .i64 p ∧ p < n ∧ K = soonF us (e - k) k p ∧ 4 * j + 1 ≤ k ∧ k ≤ 4 * j + 5 ∧ Row wr2 g c1 us ∧ But g w1 wr2) (fun _ sk _ => 4 * j + 6 - (intOf sk).toNat)
    case atStart => exact ⟨4 * j + 1, j, by go_num, rfl, hj, unhide HKE, Nat.le_refl _, by omega, unhide HW, unhide HT⟩
    case round =>
      clear HKE HW HT
      obtain ⟨k, p, rfl, rfl, hp, hKE, hk1, hk2, hrow, hbut⟩ := hrel
      have HKE := hide hKE; have HW := hide hrow; have HT := hide hbut
      clear hKE hbut hrow
      by_cases hlt : k < e
      · have hkn : k < n := by have := unhide HEE; omega
        have hk5 : k < 4 * j + 5 := by have := unhide HEE; omega
        obtain ⟨x, y, hxy⟩ : ∃ x y, tAt us k = (x, y) := ⟨_, _, rfl⟩
        obtain ⟨u, v, huv⟩ : ∃ u v, tAt us p = (u, v) := ⟨_, _, rfl⟩
        have k0 := ((unhide HW).at (by rw [unhide HU]; exact hkn) hxy).1
        have l0 := ((unhide HW).at (by rw [unhide HU]; exact hp) huv).1
        have HN : Hid (soonF us (e - k) k p = soonF us (e - (k + 1)) (k + 1) (if x < u then k else p)) := by
          show _ = _
          rw [soonF_next hlt, hxy, huv]
        clear hxy huv hcs
        have g1 : (0 : Int) ≤ (k : Int) := by omega
        have g2 : (k : Int) < (n : Int) := by omega
        have g3 : (0 : Int) ≤ (p : Int) := by omega
        have g4 : (p : Int) < (n : Int) := by omega
        have g5 : (k : Int) ≤ 4 * (j : Int) + 4 := by omega
        by_cases hs : x < u
        · have hs1 : decide (x < u) = true := decide_eq_true hs
          rw [if_pos hs] at HN
          go_wp2_with fail
          go_quiet (fail)
          go_wp2_with fail
          go_roundw
          case rel => exact ⟨k + 1, k, by go_num, by go_num, hkn, (unhide HKE).trans (unhide HN), by omega, by omega, (unhide HW).below (below_drewN (Below.refl wr.heap.size wr) nq) (unhide HW).lt, (unhide HT).call (below_drewN (Below.refl wr.heap.size wr) nq)⟩
          case measure => simp [intOf]; omega
        · have hs1 : decide (x < u) = false := decide_eq_false hs
          rw [if_neg hs] at HN
          go_wp2_with fail
          go_quiet (fail)
          go_wp2_with fail
          go_roundw
          case rel => exact ⟨k + 1, p, by go_num, by go_num, hp, (unhide HKE).trans (unhide HN), by omega, by omega, (unhide HW).below (below_drewN (Below.refl wr.heap.size wr) nq) (unhide HW).lt, (unhide HT).call (below_drewN (Below.refl wr.heap.size wr) nq)⟩
          case measure => simp [intOf]; omega
      · obtain rfl : K = p := (unhide HKE).trans (soonF_end (by omega))
        have HW4 := HW; have HT4 := HT
        clear HW HT
        by_cases hA : k ≤ 4 * j + 4
        · have g6 : (k : Int) ≤ 4 * (j : Int) + 4 := by omega
          have g7 : ¬ (k : Int) < (n : Int) := by have := unhide HEE; omega
          by_cases hKj : K = j
          · subst hKj
            have HER := hide ((unhide HE).trans (sinkF_stop (unhide HK)))
            have e1 : ((K : Int) == (K : Int)) = true := by simp
            go_wp2_with fail
            refine bodyPost_ret (v := .slice (some ⟨g, 0, none⟩) n c1) (by simp [results, Try.results30, go_sem]) rfl ⟨g, c1, rfl, hgw, by rw [unhide HER]; exact unhide HW4, (unhide HB).trans ((unhide HT4).below hgw (unhide HB).size)⟩
          · have e1 : ((K : Int) == (j : Int)) = false := by simp; omega
            have hKn : K < n := by omega
            have hjK : j < K := by omega
            obtain ⟨x, y, hxy⟩ : ∃ x y, tAt us j = (x, y) := ⟨_, _, rfl⟩
            obtain ⟨u, v, huv⟩ : ∃ u v, tAt us K = (u, v) := ⟨_, _, rfl⟩
            have HC : Hid (∀ W, Row W g c1 us → W.cell? ⟨g, j * 2, none⟩ = some (.int .i64 x) ∧ W.cell? ⟨g, j * 2 + 1, none⟩ = some (.int .i64 y) ∧ W.cell? ⟨g, K * 2, none⟩ = some (.int .i64 u) ∧ W.cell? ⟨g, K * 2 + 1, none⟩ = some (.int .i64 v) ∧ W.frozen? ⟨g, j * 2, none⟩ = false ∧ W.frozen? ⟨g, j * 2 + 1, none⟩ = false ∧ W.frozen? ⟨g, K * 2, none⟩ = false ∧ W.frozen? ⟨g, K * 2 + 1, none⟩ = false) := fun W hW =>
              have h1 := hW.at (by rw [unhide HU]; exact hj) hxy
              have h2 := hW.at (by rw [unhide HU]; exact hKn) huv
              ⟨h1.1, h1.2, h2.1, h2.2, hW.free _, hW.free _, hW.free _, hW.free _⟩
            have HSW : Hid (∀ W, Row W g c1 us → Row (put2 (put2 W g (j * 2) (u, v)) g (K * 2) (x, y)) g c1 (swapT us j K)) := fun W hW => hW.swap hxy huv
            clear hxy huv
            have g2 : (0 : Int) ≤ (K : Int) := by omega
            have g3 : (K : Int) < (n : Int) := by omega
            have g4 : (0 : Int) ≤ (j : Int) := by omega
            have g5 : (j : Int) < (n : Int) := by omega
            have n1 : j * 2 ≠ K * 2 := by omega
            have n2 : j * 2 ≠ K * 2 + 1 := by omega
            have n3 : j * 2 + 1 ≠ K * 2 := by omega
            have n4 : j * 2 + 1 ≠ K * 2 + 1 := by omega
            have m1 : K * 2 ≠ j * 2 := by omega
            have m2 : K * 2 + 1 ≠ j * 2 := by omega
            have m3 : K * 2 ≠ j * 2 + 1 := by omega
            have m4 : K * 2 + 1 ≠ j * 2 + 1 := by omega
            obtain ⟨k0, k1, l0, l1, f0, f1, f2, f3⟩ := unhide HC _ (unhide HW4)
            go_wp2_with fail
            go_region
            go_wp2_with fail
            go_roundw
            case rel => exact ⟨K, f - 1, swapT us j K, by go_num, by omega, by omega, by rw [swapT_length]; exact unhide HU, (unhide HE).trans (sinkF_go (unhide HK) hKj (by omega)), unhide HSW _ (unhide HW4), ((unhide HT4).swap _ _ (u, v) (x, y)).drew⟩
            case measure => simp [intOf]; omega
        · have g6 : ¬ (k : Int) ≤ 4 * (j : Int) + 4 := by omega
          by_cases hKj : K = j
          · subst hKj
            have HER := hide ((unhide HE).trans (sinkF_stop (unhide HK)))
            have e1 : ((K : Int) == (K : Int)) = true := by simp
            go_wp2_with fail
            refine bodyPost_ret (v := .slice (some ⟨g, 0, none⟩) n c1) (by simp [results, Try.results30, go_sem]) rfl ⟨g, c1, rfl, hgw, by rw [unhide HER]; exact unhide HW4, (unhide HB).trans ((unhide HT4).below hgw (unhide HB).size)⟩
          · have e1 : ((K : Int) == (j : Int)) = false := by simp; omega
            have hKn : K < n := by omega
            have hjK : j < K := by omega
            obtain ⟨x, y, hxy⟩ : ∃ x y, tAt us j = (x, y) := ⟨_, _, rfl⟩
            obtain ⟨u, v, huv⟩ : ∃ u v, tAt us K = (u, v) := ⟨_, _, rfl⟩
            have HC : Hid (∀ W, Row W g c1 us → W.cell? ⟨g, j * 2, none⟩ = some (.int .i64 x) ∧ W.cell? ⟨g, j * 2 + 1, none⟩ = some (.int .i64 y) ∧ W.cell? ⟨g, K * 2, none⟩ = some (.int .i64 u) ∧ W.cell? ⟨g, K * 2 + 1, none⟩ = some (.int .i64 v) ∧ W.frozen? ⟨g, j * 2, none⟩ = false ∧ W.frozen? ⟨g, j * 2 + 1, none⟩ = false ∧ W.frozen? ⟨g, K * 2, none⟩ = false ∧ W.frozen? ⟨g, K * 2 + 1, none⟩ = false) := fun W hW =>
              have h1 := hW.at (by rw [unhide HU]; exact hj) hxy
              have h2 := hW.at (by rw [unhide HU]; exact hKn) huv
              ⟨h1.1, h1.2, h2.1, h2.2, hW.free _, hW.free _, hW.free _, hW.free _⟩
            have HSW : Hid (∀ W, Row W g c1 us → Row (put2 (put2 W g (j * 2) (u, v)) g (K * 2) (x, y)) g c1 (swapT us j K)) := fun W hW => hW.swap hxy huv
            clear hxy huv
            have g2 : (0 : Int) ≤ (K : Int) := by omega
            have g3 : (K : Int) < (n : Int) := by omega
            have g4 : (0 : Int) ≤ (j : Int) := by omega
            have g5 : (j : Int) < (n : Int) := by omega
            have n1 : j * 2 ≠ K * 2 := by omega
            have n2 : j * 2 ≠ K * 2 + 1 := by omega
            have n3 : j * 2 + 1 ≠ K * 2 := by omega
            have n4 : j * 2 + 1 ≠ K * 2 + 1 := by omega
            have m1 : K * 2 ≠ j * 2 := by omega
            have m2 : K * 2 + 1 ≠ j * 2 := by omega
            have m3 : K * 2 ≠ j * 2 + 1 := by omega
            have m4 : K * 2 + 1 ≠ j * 2 + 1 := by omega
            obtain ⟨k0, k1, l0, l1, f0, f1, f2, f3⟩ := unhide HC _ (unhide HW4)
            go_wp2_with fail
            go_region
            go_wp2_with fail
            go_roundw
            case rel => exact ⟨K, f - 1, swapT us j K, by go_num, by omega, by omega, by rw [swapT_length]; exact unhide HU, (unhide HE).trans (sinkF_go (unhide HK) hKj (by omega)), unhide HSW _ (unhide HW4), ((unhide HT4).swap _ _ (u, v) (x, y)).drew⟩
            case measure => simp [intOf]; omega
end Go.Proofs.Ytcfjpjojckngeaa
