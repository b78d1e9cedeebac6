/-
  The soonest timer below: alarm.soonest.
-/
import Derived.Test.YtcfjpjojckngeaaF
namespace Go.Proofs.Ytcfjpjojckngeaa
open Go.RowKit

/-- Of so many places from k on the soonest that is sooner than that at p; p, if none is. -/
def soonF (ts : List Tm) : Nat → Nat → Nat → Nat
  | 0, _, p => p
  | m + 1, k, p => soonF ts m (k + 1) (if (tAt ts k).1 < (tAt ts p).1 then k else p)
def soonL (ts : List Tm) (i : Nat) : Nat := soonF ts (min (4 * i + 5) ts.length - (4 * i + 1)) (4 * i + 1) i

theorem soonF_cases (ts : List Tm) : ∀ (m k p : Nat), soonF ts m k p = p ∨ (k ≤ soonF ts m k p ∧ soonF ts m k p < k + m)
  | 0, _, _ => Or.inl rfl
  | m + 1, k, p => by
    rw [soonF]
    split
    · rcases soonF_cases ts m (k + 1) k with h | h
      · rw [h]; exact Or.inr ⟨Nat.le_refl _, by omega⟩
      · exact Or.inr ⟨by omega, by omega⟩
    · rcases soonF_cases ts m (k + 1) p with h | h
      · exact Or.inl h
      · exact Or.inr ⟨by omega, by omega⟩
theorem soonL_cases (ts : List Tm) (i : Nat) : soonL ts i = i ∨ (4 * i + 1 ≤ soonL ts i ∧ soonL ts i < 4 * i + 5 ∧ soonL ts i < ts.length) := by
  rcases soonF_cases ts (min (4 * i + 5) ts.length - (4 * i + 1)) (4 * i + 1) i with h | h
  · exact Or.inl h
  · exact Or.inr ⟨h.1, by unfold soonL; omega, by unfold soonL; omega⟩
theorem run_min2 (w : World) (ts : Array TypeId) (t : TypeId) (x y : Int) : (Builtin.min_ ts t #[.int .i64 x, .int .i64 y]).run Try.prog w = .ok (.int .i64 (min x y)) w := by
  have e : ∀ a b : Int, (if b < a then b else a) = min a b := fun a b => by omega
  simp [Builtin.min_, Builtin.min2, e]
theorem soonF_next {ts : List Tm} {e k p : Nat} (h : k < e) : soonF ts (e - k) k p = soonF ts (e - (k + 1)) (k + 1) (if (tAt ts k).1 < (tAt ts p).1 then k else p) := by
  rw [show e - k = (e - (k + 1)) + 1 by omega, soonF]
theorem soonF_end {ts : List Tm} {e k p : Nat} (h : e ≤ k) : soonF ts (e - k) k p = p := by
  rw [show e - k = 0 by omega, soonF]

set_option maxRecDepth 100000 in
set_option maxHeartbeats 2000000 in
theorem soonest_any (w : World) (g c n i : Nat) (ts : List Tm) (hl : ts.length = n) (hi : i < n) (hn : n ≤ 10000) (h : Row w g c ts) :
    Calls Try.prog 34 #[.slice (some ⟨g, 0, none⟩) n c, .int .i64 i] w fun e w' => e = .returned (.int .i64 (soonL ts i : Nat)) ∧ Below w.heap.size w w' := by
  obtain ⟨e, he⟩ : ∃ e, min (4 * i + 5) n = e := ⟨_, rfl⟩
  obtain ⟨R, hR⟩ : ∃ R, R = soonL ts i := ⟨_, rfl⟩
  rw [← hR]
  have HE : Hid (R = soonF ts (e - (4 * i + 1)) (4 * i + 1) i) := by rw [hR, ← he, ← hl]; rfl
  have HEE := hide he
  have HL := hide hl
  have HW := hide h
  clear h hR hl he
  have w1 : IntKind.i64.wrap (4 * (i : Int)) = 4 * (i : Int) := by simp [IntKind.wrap, IntKind.bits, IntKind.signed]; omega
  have w2 : IntKind.i64.wrap (4 * (i : Int) + 1) = 4 * (i : Int) + 1 := by simp [IntKind.wrap, IntKind.bits, IntKind.signed]; omega
  have w3 : IntKind.i64.wrap (4 * (i : Int) + 1 + 4) = 4 * (i : Int) + 1 + 4 := by simp [IntKind.wrap, IntKind.bits, IntKind.signed]; omega
  have hmin : ∀ (W : World) (ts : Array TypeId) (ty : TypeId), (Builtin.min_ ts ty #[.int .i64 (4 * (i : Int) + 1 + 4), .int .i64 n]).run Try.prog W = .ok (.int .i64 e) W := fun W ts ty => by
    rw [run_min2]
    have : min (4 * (i : Int) + 1 + 4) (n : Int) = (e : Int) := by have := unhide HEE; omega
    rw [this]
  go_enter Try.func34, Try.ntmps34
  go_wp2
  go_loopw [5, 7] (fun sp sk wr => ∃ (k p : Nat), sk = .int .i64 k ∧ sp = .int .i64 p ∧ p < n ∧ R = soonF ts (e - k) k p ∧ 4 * i + 1 ≤ k ∧ k ≤ 4 * i + 5 ∧ Below w.heap.size w wr) (fun _ sk _ => 4 * i + 6 - (intOf sk).toNat)
  case atStart => exact ⟨4 * i + 1, i, by go_num, rfl, hi, unhide HE, Nat.le_refl _, by omega, Below.refl _ _⟩
  case round =>
    clear HE
    obtain ⟨k, p, rfl, rfl, hp, hE, hk1, hk2, hb⟩ := hrel
    have HE := hide hE; have HB := hide hb
    clear hE
    by_cases hlt : k < e
    · have hkn : k < n := by have := unhide HEE; omega
      have hk5 : k < 4 * i + 5 := by have := unhide HEE; omega
      obtain ⟨x, y, hxy⟩ : ∃ x y, tAt ts k = (x, y) := ⟨_, _, rfl⟩
      obtain ⟨u, v, huv⟩ : ∃ u v, tAt ts p = (u, v) := ⟨_, _, rfl⟩
      have HSS : Hid (∀ W, Below wr.heap.size wr W → (W.cell? ⟨g, k * 2, none⟩ = some (.int .i64 x) ∧ W.cell? ⟨g, k * 2 + 1, none⟩ = some (.int .i64 y) ∧ W.cell? ⟨g, p * 2, none⟩ = some (.int .i64 u) ∧ W.cell? ⟨g, p * 2 + 1, none⟩ = some (.int .i64 v)) ∧ Below wr.heap.size wr W) := fun W hW =>
        have hr := (unhide HW).below ((unhide HB).trans (hW.mono (unhide HB).size)) (unhide HW).lt
        have h1 := hr.at (by rw [unhide HL]; exact hkn) hxy
        have h2 := hr.at (by rw [unhide HL]; exact hp) huv
        ⟨⟨h1.1, h1.2, h2.1, h2.2⟩, hW⟩
      have HN : Hid (soonF ts (e - k) k p = soonF ts (e - (k + 1)) (k + 1) (if x < u then k else p)) := by
        show _ = _
        rw [soonF_next hlt, hxy, huv]
      clear hxy huv hb
      have g1 : (0 : Int) ≤ (k : Int) := by omega
      have g2 : (k : Int) < (n : Int) := by omega
      have g3 : (0 : Int) ≤ (p : Int) := by omega
      have g4 : (p : Int) < (n : Int) := by omega
      have g5 : (k : Int) < 4 * (i : Int) + 1 + 4 := by omega
      have g6 : (k : Int) < (e : Int) := by omega
      by_cases hs : x < u
      · have hs1 : decide (x < u) = true := decide_eq_true hs
        rw [if_pos hs] at HN
        go_wp2_with fail
        go_region_held3 (fun W => (W.cell? ⟨g, k * 2, none⟩ = some (.int .i64 x) ∧ W.cell? ⟨g, k * 2 + 1, none⟩ = some (.int .i64 y) ∧ W.cell? ⟨g, p * 2, none⟩ = some (.int .i64 u) ∧ W.cell? ⟨g, p * 2 + 1, none⟩ = some (.int .i64 v)) ∧ Below wr.heap.size wr W)
          (first | with_reducible exact unhide HSS _ (Below.refl _ _).drew | with_reducible exact unhide HSS _ (unhide HB4))
          (first
            | (go_at_call 24; refine (sooner_any _ _ _ _ _).mono ?_; rintro e w4 ⟨rfl, hb4⟩; have HB4 : Hid (Below wr.heap.size wr w4) := Below.trans (B := wr.heap.size) (by go_split_ands; assumption) (hb4.mono (Below.size (B := wr.heap.size) (by go_split_ands; assumption))); clear hb4))
        have HB5 := hide ((unhide HB).trans ((unhide HB4).mono (unhide HB).size))
        go_wp2_with fail
        go_roundw
        case rel => exact ⟨k + 1, k, by go_num, by go_num, hkn, (unhide HE).trans (unhide HN), by omega, by omega, unhide HB5⟩
        case measure => simp [intOf]; omega
      · have hs1 : decide (x < u) = false := decide_eq_false hs
        rw [if_neg hs] at HN
        go_wp2_with fail
        go_region_held3 (fun W => (W.cell? ⟨g, k * 2, none⟩ = some (.int .i64 x) ∧ W.cell? ⟨g, k * 2 + 1, none⟩ = some (.int .i64 y) ∧ W.cell? ⟨g, p * 2, none⟩ = some (.int .i64 u) ∧ W.cell? ⟨g, p * 2 + 1, none⟩ = some (.int .i64 v)) ∧ Below wr.heap.size wr W)
          (first | with_reducible exact unhide HSS _ (Below.refl _ _).drew | with_reducible exact unhide HSS _ (unhide HB4))
          (first
            | (go_at_call 24; refine (sooner_any _ _ _ _ _).mono ?_; rintro e w4 ⟨rfl, hb4⟩; have HB4 : Hid (Below wr.heap.size wr w4) := Below.trans (B := wr.heap.size) (by go_split_ands; assumption) (hb4.mono (Below.size (B := wr.heap.size) (by go_split_ands; assumption))); clear hb4))
        have HB5 := hide ((unhide HB).trans ((unhide HB4).mono (unhide HB).size))
        go_wp2_with fail
        go_roundw
        case rel => exact ⟨k + 1, p, by go_num, by go_num, hp, (unhide HE).trans (unhide HN), by omega, by omega, unhide HB5⟩
        case measure => simp [intOf]; omega
    · have hER : R = p := (unhide HE).trans (soonF_end (by omega))
      have HER := hide hER
      have g6 : ¬ (k : Int) < (e : Int) := by omega
      clear hER hb
      go_wp2_with fail
      exact bodyPost_ret (v := .int .i64 (p : Int)) (by simp [results, Try.results34, go_sem]) rfl ⟨by rw [unhide HER], unhide HB⟩
end Go.Proofs.Ytcfjpjojckngeaa
