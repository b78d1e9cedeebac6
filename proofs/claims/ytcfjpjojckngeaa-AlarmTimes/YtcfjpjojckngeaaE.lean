/-
  A timer rises: taskmillref.Risen.
-/
import Derived.Test.YtcfjpjojckngeaaD
import Derived.RegionTactic
import Derived.BigRegion
namespace Go.Proofs.Ytcfjpjojckngeaa
open Go.RowKit

/-- Two timers change places. -/
def swapT (ts : List Tm) (i k : Nat) : List Tm := (ts.set i (tAt ts k)).set k (tAt ts i)
theorem swapT_length (ts : List Tm) (i k : Nat) : (swapT ts i k).length = ts.length := by simp [swapT]

/-- The timer at i rises, so many times at most: the list then, and its place. -/
def riseF : Nat → List Tm → Nat → List Tm × Nat
  | 0, ts, i => (ts, i)
  | f + 1, ts, i => if 0 < i ∧ (tAt ts i).1 < (tAt ts ((i - 1) / 4)).1 then riseF f (swapT ts i ((i - 1) / 4)) ((i - 1) / 4) else (ts, i)
theorem riseF_stop {f : Nat} {ts : List Tm} {i : Nat} (h : ¬ (0 < i ∧ (tAt ts i).1 < (tAt ts ((i - 1) / 4)).1)) : riseF f ts i = (ts, i) := by
  cases f with
  | zero => rfl
  | succ f => rw [riseF, if_neg h]
theorem riseF_length : ∀ (f : Nat) (ts : List Tm) (i : Nat), (riseF f ts i).1.length = ts.length
  | 0, _, _ => rfl
  | f + 1, ts, i => by
    rw [riseF]
    split
    · rw [riseF_length f, swapT_length]
    · rfl
theorem riseF_lt : ∀ (f : Nat) (ts : List Tm) (i : Nat), (riseF f ts i).2 ≤ i
  | 0, _, _ => Nat.le_refl _
  | f + 1, ts, i => by
    rw [riseF]
    split
    · have := riseF_lt f (swapT ts i ((i - 1) / 4)) ((i - 1) / 4)
      omega
    · exact Nat.le_refl _
theorem riseF_go {f : Nat} {ts : List Tm} {i K : Nat} (h : 0 < i ∧ (tAt ts i).1 < (tAt ts ((i - 1) / 4)).1) (hf : 0 < f) (hK : (i - 1) / 4 = K) : riseF f ts i = riseF (f - 1) (swapT ts i K) K := by
  obtain ⟨f, rfl⟩ : ∃ f', f = f' + 1 := ⟨f - 1, by omega⟩
  rw [riseF, if_pos h, hK]
  rfl
def riseL (ts : List Tm) (i : Nat) : List Tm × Nat := riseF i ts i

theorem Row.at {w : World} {g c : Nat} {ts : List Tm} (h : Row w g c ts) {j : Nat} (hj : j < ts.length) {x y : Int} (e : tAt ts j = (x, y)) : w.cell? ⟨g, j * 2, none⟩ = some (.int .i64 x) ∧ w.cell? ⟨g, j * 2 + 1, none⟩ = some (.int .i64 y) := by
  have := h.cells j hj
  rw [Nat.zero_add, e] at this
  exact this
theorem Row.swap {w : World} {g c : Nat} {ts : List Tm} (h : Row w g c ts) {i k : Nat} {a b : Tm} (ea : tAt ts i = a) (eb : tAt ts k = b) : Row (put2 (put2 w g (i * 2) b) g (k * 2) a) g c (swapT ts i k) := by
  rw [swapT, ea, eb]
  exact (h.put i b).put k a
theorem But.swap {g : Nat} {a b : World} (h : But g a b) (o o' : Nat) (t t' : Tm) : But g a (put2 (put2 b g o t) g o' t') := (h.put o t).put o' t'

set_option maxRecDepth 100000 in
set_option maxHeartbeats 2000000 in
theorem risen_any (w : World) (v : Value) (ts : List Tm) (n i : Nat) (hl : ts.length = n) (hi : i < n) (hn : n ≤ 10000) (h : IsTs w v ts) :
    Calls Try.prog 16 #[v, .int .i64 i] w fun e w' => ∃ g c, e = .returned (.tuple #[.slice (some ⟨g, 0, none⟩) n c, .int .i64 ((riseL ts i).2 : Nat)]) ∧ w.heap.size ≤ g ∧ Row w' g c (riseL ts i).1 ∧ Below w.heap.size w w' := by
  obtain ⟨a, ca, rfl⟩ := Rd.form h
  rw [hl]
  have HR := hide h
  rw [hl] at HR
  obtain ⟨R, hR⟩ : ∃ R, R = riseL ts i := ⟨_, rfl⟩
  rw [← hR]
  have HE : Hid (R = riseF i ts i) := hR
  have HL := hide hl
  clear h hR hl
  go_enter Try.func16, Try.ntmps16
  go_wp2_with (at_builtin; refine wpList_append_ts rfl (.const (.slice none 0 0)) (.tmp 7) rfl w.heap.size _ [] rfl (own_nil _ _) _ ts rfl (unhide HR) n (by rw [unhide HL]; simp) (by omega) (Nat.le_refl _) ?_; intro a1 c1 w1 ho hg; have HO := hide (own_nil_append ho); have HB := hide ((Below.refl w.heap.size w).grown hg (Nat.le_refl _) (fun k hk => by cases hk)); clear ho hg)
  obtain ⟨g, c, ev, hgw, hrow⟩ := (unhide HO).row (by rw [unhide HL]; omega)
  rw [unhide HL] at ev
  cases ev
  have HW := hide hrow
  clear hrow HO
  go_loopw [1] (fun si wr => ∃ (j f : Nat) (us : List Tm), si = .int .i64 j ∧ j < n ∧ j ≤ f ∧ us.length = n ∧ R = riseF f us j ∧ Row wr g c1 us ∧ But g w1 wr) (fun si _ => (intOf si).toNat)
  case atStart => exact ⟨i, i, ts, rfl, hi, Nat.le_refl _, unhide HL, unhide HE, unhide HW, But.refl _ _⟩
  case round =>
    clear HW HE HR
    obtain ⟨j, f, us, rfl, hj, hjf, hul, hE, hrow, hbut⟩ := hrel
    have HE := hide hE; have HU := hide hul; have HW := hide hrow; have HT := hide hbut
    clear hE hul hbut
    have z := fun o => hrow.free o
    by_cases hj0 : 0 < j
    · obtain ⟨K, hK⟩ : ∃ K, (j - 1) / 4 = K := ⟨_, rfl⟩
      have hKj : K < j := by omega
      have hKn : K < n := by omega
      have wj : IntKind.i64.wrap ((j : Int) - 1) = (j : Int) - 1 := by simp [IntKind.wrap, IntKind.bits, IntKind.signed]; omega
      have wk : IntKind.i64.wrap (((j : Int) - 1).tdiv 4) = (K : Int) := by rw [Int.tdiv_eq_ediv_of_nonneg (by omega)]; simp [IntKind.wrap, IntKind.bits, IntKind.signed]; omega
      obtain ⟨x, y, hxy⟩ : ∃ x y, tAt us j = (x, y) := ⟨_, _, rfl⟩
      obtain ⟨u, v, huv⟩ : ∃ u v, tAt us K = (u, v) := ⟨_, _, rfl⟩
      have HC : Hid (∀ W, Row W g c1 us → W.cell? ⟨g, j * 2, none⟩ = some (.int .i64 x) ∧ W.cell? ⟨g, j * 2 + 1, none⟩ = some (.int .i64 y) ∧ W.cell? ⟨g, K * 2, none⟩ = some (.int .i64 u) ∧ W.cell? ⟨g, K * 2 + 1, none⟩ = some (.int .i64 v) ∧ W.frozen? ⟨g, j * 2, none⟩ = false ∧ W.frozen? ⟨g, j * 2 + 1, none⟩ = false ∧ W.frozen? ⟨g, K * 2, none⟩ = false ∧ W.frozen? ⟨g, K * 2 + 1, none⟩ = false) := fun W hW =>
        have h1 := hW.at (by rw [unhide HU]; exact hj) hxy
        have h2 := hW.at (by rw [unhide HU]; exact hKn) huv
        ⟨h1.1, h1.2, h2.1, h2.2, hW.free _, hW.free _, hW.free _, hW.free _⟩
      have HCOND : Hid ((0 < j ∧ (tAt us j).1 < (tAt us ((j - 1) / 4)).1) ↔ x < u) := by
        show _ ↔ _
        rw [hK, hxy, huv]
        exact ⟨fun h => h.2, fun h => ⟨hj0, h⟩⟩
      have HSW : Hid (∀ W, Row W g c1 us → Row (put2 (put2 W g (j * 2) (u, v)) g (K * 2) (x, y)) g c1 (swapT us j K)) := fun W hW => hW.swap hxy huv
      have HK := hide hK
      clear hxy huv hrow z hK
      obtain ⟨k0, k1, l0, l1, f0, f1, f2, f3⟩ := unhide HC _ (unhide HW)
      have g1 : (0 : Int) < (j : Int) := by omega
      have g2 : (0 : Int) ≤ (K : Int) := by omega
      have g3 : (K : Int) < (n : Int) := by omega
      have g4 : (0 : Int) ≤ (j : Int) := by omega
      have g5 : (j : Int) < (n : Int) := by omega
      by_cases hs : x < u
      · have hs1 : decide (x < u) = true := decide_eq_true hs
        go_wp2_with fail
        go_quiet (fail)
        clear k0 k1 l0 l1 f0 f1 f2 f3
        obtain ⟨Wq, eWq⟩ : ∃ W, wr.drewN nq = W := ⟨_, rfl⟩
        have HWq : Hid (Row Wq g c1 us) := by rw [← eWq]; exact (unhide HW).below (below_drewN (Below.refl wr.heap.size wr) nq) (unhide HW).lt
        have HTq : Hid (But g w1 Wq) := by rw [← eWq]; exact (unhide HT).call (below_drewN (Below.refl wr.heap.size wr) nq)
        rw [eWq]
        clear eWq
        obtain ⟨k0, k1, l0, l1, f0, f1, f2, f3⟩ := unhide HC _ (unhide HWq)
        have n1 : j * 2 ≠ K * 2 := by omega
        have n2 : j * 2 ≠ K * 2 + 1 := by omega
        have n3 : j * 2 + 1 ≠ K * 2 := by omega
        have n4 : j * 2 + 1 ≠ K * 2 + 1 := by omega
        have m1 : K * 2 ≠ j * 2 := by omega
        have m2 : K * 2 + 1 ≠ j * 2 := by omega
        have m3 : K * 2 ≠ j * 2 + 1 := by omega
        have m4 : K * 2 + 1 ≠ j * 2 + 1 := by omega
        go_wp2_with fail
        go_region
        go_wp2_with fail
        go_roundw
        case rel => exact ⟨K, f - 1, swapT us j K, by go_num, by omega, by omega, by rw [swapT_length]; exact unhide HU, (unhide HE).trans (riseF_go ((unhide HCOND).2 hs) (by omega) (unhide HK)), unhide HSW _ (unhide HWq), ((unhide HTq).swap _ _ (u, v) (x, y)).drew⟩
        case measure => simp [intOf]; omega
      · have hs1 : decide (x < u) = false := decide_eq_false hs
        have eR : R = (us, j) := (unhide HE).trans (riseF_stop (fun h => hs ((unhide HCOND).1 h)))
        have HER := hide eR
        clear eR
        go_wp2_with fail
        go_quiet (fail)
        go_wp2_with fail
        have eR := unhide HER
        refine bodyPost_ret (v := .tuple #[.slice (some ⟨g, 0, none⟩) n c1, .int .i64 (j : Int)]) (by simp [results, Try.results16, go_sem]) rfl ⟨g, c1, by rw [eR], hgw, ?_, ?_⟩
        · rw [eR]; exact (unhide HW).below (below_drewN (Below.refl wr.heap.size wr) nq) (unhide HW).lt
        · exact (unhide HB).trans (below_drewN ((unhide HT).below hgw (unhide HB).size) nq)
    · have hd : decide ((0 : Int) < (j : Int)) = false := by simp; omega
      have HER := hide ((unhide HE).trans (riseF_stop (fun h => hj0 h.1)))
      go_wp2_with fail
      go_quiet (fail)
      go_wp2_with fail
      have eR := unhide HER
      refine bodyPost_ret (v := .tuple #[.slice (some ⟨g, 0, none⟩) n c1, .int .i64 (j : Int)]) (by simp [results, Try.results16, go_sem]) rfl ⟨g, c1, by rw [eR], hgw, ?_, ?_⟩
      · rw [eR]; exact (unhide HW).below (below_drewN (Below.refl wr.heap.size wr) nq) (unhide HW).lt
      · exact (unhide HB).trans (below_drewN ((unhide HT).below hgw (unhide HB).size) nq)
end Go.Proofs.Ytcfjpjojckngeaa
