/-
  taskmilllaw.counted.
-/
import Derived.Test.YtcfjpjojckngeaaV
namespace Go.Proofs.Ytcfjpjojckngeaa
open Go.RowKit

theorem count_take {a : List Tm} {k : Nat} (hk : k < a.length) (t : Tm) : (a.take (k + 1)).count t = (a.take k).count t + (if tAt a k = t then 1 else 0) := by
  rw [List.take_succ_eq_append_getElem hk, List.count_append, List.count_singleton, tAt_get hk]
  simp

set_option maxRecDepth 100000 in
set_option maxHeartbeats 1000000 in
theorem counted_zero (w : World) (a0 a1 : Option Addr) (c0 c1 : Nat) :
    Calls Try.prog 22 #[.slice a0 0 c0, .slice a1 0 c1] w fun e w' => e = .returned (.bool true) ∧ Below w.heap.size w w' := by
  go_enter Try.func22, Try.ntmps22
  go_wp2
  go_loopw [5] (fun i wr => i = .int .i64 0 ∧ wr = w) (fun i _ => 0)
  case atStart => exact ⟨rfl, rfl⟩
  case round =>
    obtain ⟨rfl, rfl⟩ := hrel
    go_wp2
    go_ret
    exact ⟨rfl, Below.refl _ _⟩

set_option maxRecDepth 100000 in
set_option maxHeartbeats 4000000 in
theorem counted_some (w : World) (n b0 o0 c0 b1 o1 c1 : Nat) (a b : List Tm) (hla : a.length = n) (hlb : b.length = n) (hn : n ≤ 100000) (hb0 : b0 < w.heap.size) (hb1 : b1 < w.heap.size) (h0 : Cells w b0 o0 a) (h1 : Cells w b1 o1 b) (hcnt : ∀ t, a.count t = b.count t) :
    Calls Try.prog 22 #[.slice (some ⟨b0, o0, none⟩) n c0, .slice (some ⟨b1, o1, none⟩) n c1] w fun e w' => e = .returned (.bool true) ∧ Below w.heap.size w w' := by
  have HLA := hide hla; have HLB := hide hlb; have H0 := hide h0; have H1 := hide h1; have HCN := hide hcnt
  have q0 : ((n : Int) != (n : Int)) = false := by simp
  clear hla hlb h0 h1 hcnt
  go_enter Try.func22, Try.ntmps22
  go_wp2
  go_loopw [5] (fun s5 wr => ∃ i : Nat, i ≤ n ∧ s5 = .int .i64 i ∧ Below w.heap.size w wr) (fun s5 _ => n - (intOf s5).toNat)
  case atStart => exact ⟨0, Nat.zero_le _, rfl, Below.refl _ _⟩
  case round =>
    obtain ⟨i, hi, rfl, hb⟩ := hrel
    have HB := hide hb
    clear hb
    by_cases hlt : i < n
    · have i0 : (0 : Int) ≤ (i : Int) := by omega
      have i1 : (i : Int) < (n : Int) := by omega
      obtain ⟨u, v, huv⟩ : ∃ u v, tAt a i = (u, v) := ⟨_, _, rfl⟩
      have HUV := hide huv
      clear huv
      go_wp2_with fail
      go_loopw [6, 7, 8] (fun s6 s7 s8 wr2 => ∃ k : Nat, k ≤ n ∧ s6 = .int .i64 ((a.take k).count (u, v) : Nat) ∧ s7 = .int .i64 ((b.take k).count (u, v) : Nat) ∧ s8 = .int .i64 k ∧ Below w.heap.size w wr2) (fun _ _ s8 _ => n - (intOf s8).toNat)
      case atStart => exact ⟨0, Nat.zero_le _, rfl, rfl, rfl, unhide HB⟩
      case round =>
        clear HB
        obtain ⟨k, hk, rfl, rfl, rfl, hb⟩ := hrel
        have HB := hide hb
        clear hb
        by_cases hkn : k < n
        · have j0 : (0 : Int) ≤ (k : Int) := by omega
          have j1 : (k : Int) < (n : Int) := by omega
          obtain ⟨x, y, hxy⟩ : ∃ x y, tAt a k = (x, y) := ⟨_, _, rfl⟩
          obtain ⟨s, t, hst⟩ : ∃ s t, tAt b k = (s, t) := ⟨_, _, rfl⟩
          have HC : Hid (∀ W, Below w.heap.size w W → (W.cell? ⟨b0, o0 + k * 2, none⟩ = some (.int .i64 x) ∧ W.cell? ⟨b0, o0 + k * 2 + 1, none⟩ = some (.int .i64 y)) ∧ (W.cell? ⟨b0, o0 + i * 2, none⟩ = some (.int .i64 u) ∧ W.cell? ⟨b0, o0 + i * 2 + 1, none⟩ = some (.int .i64 v)) ∧ (W.cell? ⟨b1, o1 + k * 2, none⟩ = some (.int .i64 s) ∧ W.cell? ⟨b1, o1 + k * 2 + 1, none⟩ = some (.int .i64 t))) := fun W hW => by
            have e1 := (unhide H0).below hW hb0 k (by rw [unhide HLA]; exact hkn)
            have e2 := (unhide H0).below hW hb0 i (by rw [unhide HLA]; exact hlt)
            have e3 := (unhide H1).below hW hb1 k (by rw [unhide HLB]; exact hkn)
            rw [hxy] at e1
            rw [unhide HUV] at e2
            rw [hst] at e3
            exact ⟨e1, e2, e3⟩
          have hcx := count_take (a := a) (k := k) (by rw [unhide HLA]; exact hkn) (u, v)
          have hcy := count_take (a := b) (k := k) (by rw [unhide HLB]; exact hkn) (u, v)
          rw [hxy] at hcx
          rw [hst] at hcy
          have hbx : (a.take k).count (u, v) ≤ k := Nat.le_trans List.count_le_length (by rw [List.length_take]; omega)
          have hby : (b.take k).count (u, v) ≤ k := Nat.le_trans List.count_le_length (by rw [List.length_take]; omega)
          obtain ⟨X, hX⟩ : ∃ X, (a.take k).count (u, v) = X := ⟨_, rfl⟩
          obtain ⟨Y, hY⟩ : ∃ Y, (b.take k).count (u, v) = Y := ⟨_, rfl⟩
          rw [hX] at hcx hbx ⊢
          rw [hY] at hcy hby ⊢
          have HX0 := hide hcx; have HY0 := hide hcy
          clear hxy hst hcx hcy hX hY
          have wx : IntKind.i64.wrap ((X : Int) + 1) = (X : Int) + 1 := by simp [IntKind.wrap, IntKind.bits, IntKind.signed]; omega
          have wy : IntKind.i64.wrap ((Y : Int) + 1) = (Y : Int) + 1 := by simp [IntKind.wrap, IntKind.bits, IntKind.signed]; omega
          obtain ⟨⟨k0, k1⟩, ⟨l0, l1⟩, ⟨m0, m1⟩⟩ := unhide HC _ (unhide HB)
          by_cases ex : x = u
          · by_cases ey : y = v
            · have HX : Hid ((a.take (k + 1)).count (u, v) = X + 1) := by show _ = _; rw [unhide HX0, ex, ey, if_pos rfl]
              have eqx : (x == u) = true := by simpa using ex
              have eqy : (y == v) = true := by simpa using ey
              clear ex ey
              by_cases es : s = u
              · by_cases et : t = v
                · have HY : Hid ((b.take (k + 1)).count (u, v) = Y + 1) := by show _ = _; rw [unhide HY0, es, et, if_pos rfl]
                  have eqs : (s == u) = true := by simpa using es
                  have eqt : (t == v) = true := by simpa using et
                  clear es et
                  go_wp2_with fail
                  go_quiet (fail)
                  obtain ⟨W1, eW1⟩ : ∃ W, wr.drewN nq = W := ⟨_, rfl⟩
                  have HB1 : Hid (Below w.heap.size w W1) := by rw [← eW1]; exact below_drewN (unhide HB) nq
                  rw [eW1]
                  clear eW1 k0 k1 l0 l1 m0 m1
                  obtain ⟨⟨k0, k1⟩, ⟨l0, l1⟩, ⟨m0, m1⟩⟩ := unhide HC _ (unhide HB1)
                  go_wp2_with fail
                  go_quiet (fail)
                  have HB2 := hide (below_drewN (unhide HB1) nq)
                  clear k0 k1 l0 l1 m0 m1
                  go_wp2_with fail
                  go_roundw
                  case rel => exact ⟨k + 1, by omega, by rw [unhide HX] <;> go_num, by rw [unhide HY] <;> go_num, by go_num, unhide HB2⟩
                  case measure => simp [intOf]; omega
                · have HY : Hid ((b.take (k + 1)).count (u, v) = Y) := by show _ = _; rw [unhide HY0, if_neg (fun h => et (congrArg Prod.snd h)), Nat.add_zero]
                  have eqs : (s == u) = true := by simpa using es
                  have eqt : (t == v) = false := by simpa using et
                  clear es et
                  go_wp2_with fail
                  go_quiet (fail)
                  obtain ⟨W1, eW1⟩ : ∃ W, wr.drewN nq = W := ⟨_, rfl⟩
                  have HB1 : Hid (Below w.heap.size w W1) := by rw [← eW1]; exact below_drewN (unhide HB) nq
                  rw [eW1]
                  clear eW1 k0 k1 l0 l1 m0 m1
                  obtain ⟨⟨k0, k1⟩, ⟨l0, l1⟩, ⟨m0, m1⟩⟩ := unhide HC _ (unhide HB1)
                  go_wp2_with fail
                  go_quiet (fail)
                  have HB2 := hide (below_drewN (unhide HB1) nq)
                  clear k0 k1 l0 l1 m0 m1
                  go_wp2_with fail
                  go_roundw
                  case rel => exact ⟨k + 1, by omega, by rw [unhide HX] <;> go_num, by rw [unhide HY] <;> go_num, by go_num, unhide HB2⟩
                  case measure => simp [intOf]; omega
              · have HY : Hid ((b.take (k + 1)).count (u, v) = Y) := by show _ = _; rw [unhide HY0, if_neg (fun h => es (congrArg Prod.fst h)), Nat.add_zero]
                have eqs : (s == u) = false := by simpa using es
                clear es
                go_wp2_with fail
                go_quiet (fail)
                obtain ⟨W1, eW1⟩ : ∃ W, wr.drewN nq = W := ⟨_, rfl⟩
                have HB1 : Hid (Below w.heap.size w W1) := by rw [← eW1]; exact below_drewN (unhide HB) nq
                rw [eW1]
                clear eW1 k0 k1 l0 l1 m0 m1
                obtain ⟨⟨k0, k1⟩, ⟨l0, l1⟩, ⟨m0, m1⟩⟩ := unhide HC _ (unhide HB1)
                go_wp2_with fail
                go_quiet (fail)
                have HB2 := hide (below_drewN (unhide HB1) nq)
                clear k0 k1 l0 l1 m0 m1
                go_wp2_with fail
                go_roundw
                case rel => exact ⟨k + 1, by omega, by rw [unhide HX] <;> go_num, by rw [unhide HY] <;> go_num, by go_num, unhide HB2⟩
                case measure => simp [intOf]; omega
            · have HX : Hid ((a.take (k + 1)).count (u, v) = X) := by show _ = _; rw [unhide HX0, if_neg (fun h => ey (congrArg Prod.snd h)), Nat.add_zero]
              have eqx : (x == u) = true := by simpa using ex
              have eqy : (y == v) = false := by simpa using ey
              clear ex ey
              by_cases es : s = u
              · by_cases et : t = v
                · have HY : Hid ((b.take (k + 1)).count (u, v) = Y + 1) := by show _ = _; rw [unhide HY0, es, et, if_pos rfl]
                  have eqs : (s == u) = true := by simpa using es
                  have eqt : (t == v) = true := by simpa using et
                  clear es et
                  go_wp2_with fail
                  go_quiet (fail)
                  obtain ⟨W1, eW1⟩ : ∃ W, wr.drewN nq = W := ⟨_, rfl⟩
                  have HB1 : Hid (Below w.heap.size w W1) := by rw [← eW1]; exact below_drewN (unhide HB) nq
                  rw [eW1]
                  clear eW1 k0 k1 l0 l1 m0 m1
                  obtain ⟨⟨k0, k1⟩, ⟨l0, l1⟩, ⟨m0, m1⟩⟩ := unhide HC _ (unhide HB1)
                  go_wp2_with fail
                  go_quiet (fail)
                  have HB2 := hide (below_drewN (unhide HB1) nq)
                  clear k0 k1 l0 l1 m0 m1
                  go_wp2_with fail
                  go_roundw
                  case rel => exact ⟨k + 1, by omega, by rw [unhide HX] <;> go_num, by rw [unhide HY] <;> go_num, by go_num, unhide HB2⟩
                  case measure => simp [intOf]; omega
                · have HY : Hid ((b.take (k + 1)).count (u, v) = Y) := by show _ = _; rw [unhide HY0, if_neg (fun h => et (congrArg Prod.snd h)), Nat.add_zero]
                  have eqs : (s == u) = true := by simpa using es
                  have eqt : (t == v) = false := by simpa using et
                  clear es et
                  go_wp2_with fail
                  go_quiet (fail)
                  obtain ⟨W1, eW1⟩ : ∃ W, wr.drewN nq = W := ⟨_, rfl⟩
                  have HB1 : Hid (Below w.heap.size w W1) := by rw [← eW1]; exact below_drewN (unhide HB) nq
                  rw [eW1]
                  clear eW1 k0 k1 l0 l1 m0 m1
                  obtain ⟨⟨k0, k1⟩, ⟨l0, l1⟩, ⟨m0, m1⟩⟩ := unhide HC _ (unhide HB1)
                  go_wp2_with fail
                  go_quiet (fail)
                  have HB2 := hide (below_drewN (unhide HB1) nq)
                  clear k0 k1 l0 l1 m0 m1
                  go_wp2_with fail
                  go_roundw
                  case rel => exact ⟨k + 1, by omega, by rw [unhide HX] <;> go_num, by rw [unhide HY] <;> go_num, by go_num, unhide HB2⟩
                  case measure => simp [intOf]; omega
              · have HY : Hid ((b.take (k + 1)).count (u, v) = Y) := by show _ = _; rw [unhide HY0, if_neg (fun h => es (congrArg Prod.fst h)), Nat.add_zero]
                have eqs : (s == u) = false := by simpa using es
                clear es
                go_wp2_with fail
                go_quiet (fail)
                obtain ⟨W1, eW1⟩ : ∃ W, wr.drewN nq = W := ⟨_, rfl⟩
                have HB1 : Hid (Below w.heap.size w W1) := by rw [← eW1]; exact below_drewN (unhide HB) nq
                rw [eW1]
                clear eW1 k0 k1 l0 l1 m0 m1
                obtain ⟨⟨k0, k1⟩, ⟨l0, l1⟩, ⟨m0, m1⟩⟩ := unhide HC _ (unhide HB1)
                go_wp2_with fail
                go_quiet (fail)
                have HB2 := hide (below_drewN (unhide HB1) nq)
                clear k0 k1 l0 l1 m0 m1
                go_wp2_with fail
                go_roundw
                case rel => exact ⟨k + 1, by omega, by rw [unhide HX] <;> go_num, by rw [unhide HY] <;> go_num, by go_num, unhide HB2⟩
                case measure => simp [intOf]; omega
          · have HX : Hid ((a.take (k + 1)).count (u, v) = X) := by show _ = _; rw [unhide HX0, if_neg (fun h => ex (congrArg Prod.fst h)), Nat.add_zero]
            have eqx : (x == u) = false := by simpa using ex
            clear ex
            by_cases es : s = u
            · by_cases et : t = v
              · have HY : Hid ((b.take (k + 1)).count (u, v) = Y + 1) := by show _ = _; rw [unhide HY0, es, et, if_pos rfl]
                have eqs : (s == u) = true := by simpa using es
                have eqt : (t == v) = true := by simpa using et
                clear es et
                go_wp2_with fail
                go_quiet (fail)
                obtain ⟨W1, eW1⟩ : ∃ W, wr.drewN nq = W := ⟨_, rfl⟩
                have HB1 : Hid (Below w.heap.size w W1) := by rw [← eW1]; exact below_drewN (unhide HB) nq
                rw [eW1]
                clear eW1 k0 k1 l0 l1 m0 m1
                obtain ⟨⟨k0, k1⟩, ⟨l0, l1⟩, ⟨m0, m1⟩⟩ := unhide HC _ (unhide HB1)
                go_wp2_with fail
                go_quiet (fail)
                have HB2 := hide (below_drewN (unhide HB1) nq)
                clear k0 k1 l0 l1 m0 m1
                go_wp2_with fail
                go_roundw
                case rel => exact ⟨k + 1, by omega, by rw [unhide HX] <;> go_num, by rw [unhide HY] <;> go_num, by go_num, unhide HB2⟩
                case measure => simp [intOf]; omega
              · have HY : Hid ((b.take (k + 1)).count (u, v) = Y) := by show _ = _; rw [unhide HY0, if_neg (fun h => et (congrArg Prod.snd h)), Nat.add_zero]
                have eqs : (s == u) = true := by simpa using es
                have eqt : (t == v) = false := by simpa using et
                clear es et
                go_wp2_with fail
                go_quiet (fail)
                obtain ⟨W1, eW1⟩ : ∃ W, wr.drewN nq = W := ⟨_, rfl⟩
                have HB1 : Hid (Below w.heap.size w W1) := by rw [← eW1]; exact below_drewN (unhide HB) nq
                rw [eW1]
                clear eW1 k0 k1 l0 l1 m0 m1
                obtain ⟨⟨k0, k1⟩, ⟨l0, l1⟩, ⟨m0, m1⟩⟩ := unhide HC _ (unhide HB1)
                go_wp2_with fail
                go_quiet (fail)
                have HB2 := hide (below_drewN (unhide HB1) nq)
                clear k0 k1 l0 l1 m0 m1
                go_wp2_with fail
                go_roundw
                case rel => exact ⟨k + 1, by omega, by rw [unhide HX] <;> go_num, by rw [unhide HY] <;> go_num, by go_num, unhide HB2⟩
                case measure => simp [intOf]; omega
            · have HY : Hid ((b.take (k + 1)).count (u, v) = Y) := by show _ = _; rw [unhide HY0, if_neg (fun h => es (congrArg Prod.fst h)), Nat.add_zero]
              have eqs : (s == u) = false := by simpa using es
              clear es
              go_wp2_with fail
              go_quiet (fail)
              obtain ⟨W1, eW1⟩ : ∃ W, wr.drewN nq = W := ⟨_, rfl⟩
              have HB1 : Hid (Below w.heap.size w W1) := by rw [← eW1]; exact below_drewN (unhide HB) nq
              rw [eW1]
              clear eW1 k0 k1 l0 l1 m0 m1
              obtain ⟨⟨k0, k1⟩, ⟨l0, l1⟩, ⟨m0, m1⟩⟩ := unhide HC _ (unhide HB1)
              go_wp2_with fail
              go_quiet (fail)
              have HB2 := hide (below_drewN (unhide HB1) nq)
              clear k0 k1 l0 l1 m0 m1
              go_wp2_with fail
              go_roundw
              case rel => exact ⟨k + 1, by omega, by rw [unhide HX] <;> go_num, by rw [unhide HY] <;> go_num, by go_num, unhide HB2⟩
              case measure => simp [intOf]; omega
        · obtain rfl : k = n := by omega
          have j1 : ¬ (k : Int) < (k : Int) := by omega
          have hXY : (a.take k).count (u, v) = (b.take k).count (u, v) := by
            rw [List.take_of_length_le (by rw [unhide HLA]; exact Nat.le_refl _), List.take_of_length_le (by rw [unhide HLB]; exact Nat.le_refl _)]
            exact unhide HCN _
          obtain ⟨X, hX⟩ : ∃ X, (b.take k).count (u, v) = X := ⟨_, rfl⟩
          rw [hXY, hX]
          have qx : ((X : Int) != (X : Int)) = false := by simp
          clear hXY hX
          go_wp2_with fail
          go_roundw
          case rel => exact ⟨i + 1, by omega, by go_num, unhide HB⟩
          case measure => simp [intOf]; omega
    · have i1 : ¬ (i : Int) < (n : Int) := by omega
      go_wp2_with fail
      go_ret
      exact ⟨rfl, unhide HB⟩

theorem counted_any (w : World) (va vb : Value) (a b : List Tm) (h0 : IsTs w va a) (h1 : IsTs w vb b) (hl : a.length = b.length) (hn : a.length ≤ 100000) (hc : ∀ t, a.count t = b.count t) :
    Calls Try.prog 22 #[va, vb] w fun e w' => e = .returned (.bool true) ∧ Below w.heap.size w w' := by
  by_cases hp : 0 < a.length
  · obtain ⟨b0, o0, c0, rfl, hb0, hc0⟩ := h0.at hp
    obtain ⟨b1, o1, c1, rfl, hb1, hc1⟩ := h1.at (by omega)
    rw [← hl]
    exact counted_some w a.length b0 o0 c0 b1 o1 c1 a b rfl hl.symm hn hb0 hb1 hc0 hc1 hc
  · obtain ⟨a0, c0, rfl⟩ := Rd.form h0
    obtain ⟨a1, c1, rfl⟩ := Rd.form h1
    have e0 : a.length = 0 := by omega
    rw [← hl, e0]
    exact counted_zero w a0 a1 c0 c1
end Go.Proofs.Ytcfjpjojckngeaa
