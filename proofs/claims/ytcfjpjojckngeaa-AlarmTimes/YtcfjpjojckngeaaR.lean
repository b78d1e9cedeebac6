/-
  taskmillref.Heaped.
-/
import Derived.Test.YtcfjpjojckngeaaQ
namespace Go.Proofs.Ytcfjpjojckngeaa
open Go.RowKit

set_option maxRecDepth 100000 in
set_option maxHeartbeats 2000000 in
theorem heaped_any (w : World) (v : Value) (ts : List Tm) (n : Nat) (hl : ts.length = n) (hn : n ≤ 10000) (h : IsTs w v ts) :
    Calls Try.prog 20 #[v] w fun e w' => ∃ a' c', e = .returned (.slice a' n c') ∧ IsTs w' (.slice a' n c') (madeL ts) ∧ Below w.heap.size w w' := by
  obtain ⟨a, c, rfl⟩ := Rd.form h
  rw [hl]
  obtain ⟨R, hR⟩ : ∃ R, R = madeL ts := ⟨_, rfl⟩
  rw [← hR]
  obtain ⟨m, hm⟩ : ∃ m, (n + 2) / 4 = m := ⟨_, rfl⟩
  have HE : Hid (R = madeN (min n m) ts) := by
    have e : min n m = (n + 2) / 4 := by omega
    rw [e, hR, ← hl]; rfl
  have HV := hide h
  rw [hl] at HV
  have HM := hide hm; have HL := hide hl
  have wn : IntKind.i64.wrap ((n : Int) - 1) = (n : Int) - 1 := by simp [IntKind.wrap, IntKind.bits, IntKind.signed]; omega
  clear h hR hl hm
  go_enter Try.func20, Try.ntmps20
  go_wp2
  go_loopw [0, 3] (fun s0 s3 wr => ∃ (k : Nat) (us : List Tm) (a : Option Addr) (c : Nat), s0 = .slice a n c ∧ s3 = .int .i64 ((k : Int) - 1) ∧ k ≤ n ∧ us.length = n ∧ R = madeN (min k m) us ∧ IsTs wr (.slice a n c) us ∧ Below w.heap.size w wr) (fun _ s3 _ => (intOf s3 + 1).toNat)
  case atStart => exact ⟨n, ts, _, _, rfl, rfl, Nat.le_refl _, unhide HL, unhide HE, unhide HV, Below.refl _ _⟩
  case round =>
    clear HE HV
    obtain ⟨k, us, a1, c1, rfl, rfl, hk, hul, hE, hts, hb⟩ := hrel
    have HE := hide hE; have HU := hide hul; have HV := hide hts; have HB := hide hb
    clear hE hul hts hb
    cases k with
    | zero =>
      have HER : Hid (R = us) := by
        have := unhide HE
        rw [Nat.zero_min] at this
        exact this
      go_wp2_with fail
      go_ret
      exact ⟨a1, c1, rfl, by rw [unhide HER]; exact unhide HV, unhide HB⟩
    | succ k =>
      have e0 : ((k + 1 : Nat) : Int) - 1 = (k : Int) := by omega
      rw [e0]
      clear e0
      have g1 : (0 : Int) ≤ (k : Int) := by omega
      have wk : IntKind.i64.wrap ((k : Int) - 1) = (k : Int) - 1 := by simp [IntKind.wrap, IntKind.bits, IntKind.signed]; omega
      have w4 : IntKind.i64.wrap (4 * (k : Int)) = 4 * (k : Int) := by simp [IntKind.wrap, IntKind.bits, IntKind.signed]; omega
      have w5 : IntKind.i64.wrap (4 * (k : Int) + 1) = 4 * (k : Int) + 1 := by simp [IntKind.wrap, IntKind.bits, IntKind.signed]; omega
      by_cases hk4 : 4 * k + 1 < n
      · have g2 : 4 * (k : Int) + 1 < (n : Int) := by omega
        have HER : Hid (R = madeN (min k m) (sinkL us k)) := by
          have := unhide HE
          have hm := unhide HM
          rw [show min (k + 1) m = min k m + 1 by omega, madeN, show min k m = k by omega] at this
          rw [show min k m = k by omega]
          exact this
        go_wp2_with (go_at_call 30; refine (sunk_any _ _ us n k (unhide HU) (by omega) hn (unhide HV)).mono ?_; rintro e w3 ⟨g3, c3, rfl, hg3, hr3, hb3⟩; have HR3 := hide hr3; have HB3 := hide ((unhide HB).trans (hb3.mono (unhide HB).size)); clear hg3 hr3 hb3)
        go_roundw
        case rel =>
          refine ⟨k, sinkL us k, _, c3, rfl, rfl, by omega, by rw [sinkL_length]; exact unhide HU, unhide HER, ?_, unhide HB3⟩
          have := ((unhide HR3).own (Nat.le_refl g3)).ts
          rw [sinkL_length, unhide HU] at this
          exact this
        case measure => simp [intOf] <;> omega
      · have g2 : ¬ 4 * (k : Int) + 1 < (n : Int) := by omega
        have HER : Hid (R = madeN (min k m) us) := by
          have := unhide HE
          have hm := unhide HM
          rw [show min (k + 1) m = min k m by omega] at this
          exact this
        go_wp2_with fail
        go_roundw
        case rel => exact ⟨k, us, a1, c1, rfl, rfl, by omega, unhide HU, unhide HER, unhide HV, unhide HB⟩
        case measure => simp [intOf] <;> omega
end Go.Proofs.Ytcfjpjojckngeaa
