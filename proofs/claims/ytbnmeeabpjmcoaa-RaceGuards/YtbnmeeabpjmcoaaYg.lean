/-
  taskmillref.Holds; locks that are held at all accesses, on lists.
-/
import Derived.Test.YtbnmeeabpjmcoaaYf
import Derived.Test.YtbnmeeabpjmcoaaXg
namespace Go.Proofs.Ytbnmeeabpjmcoaa
open Go.RowKit

def allJ (l : List Ev) (c o : Int) : Nat → Bool
  | 0 => true
  | i + 1 => allJ l c o i && (!(onCell l c i) || decide (0 < holdN l i (l.getD i ev0).task o))
def someJ (l : List Ev) (c : Int) : Nat → Bool
  | 0 => false
  | i + 1 => someJ l c i || onCell l c i
theorem held_acc (l : List Ev) (c o : Int) : ∀ n, heldN l n c o ≤ accN l n c ∧ (allJ l c o n = true ↔ heldN l n c o = accN l n c)
  | 0 => ⟨Int.le_refl _, by simp [allJ, heldN, accN]⟩
  | n + 1 => by
    obtain ⟨h1, h2⟩ := held_acc l c o n
    show heldN l n c o + _ ≤ accN l n c + _ ∧ (_ ↔ heldN l n c o + _ = accN l n c + _)
    unfold allJ
    cases e : onCell l c n with
    | false =>
      simp only [Bool.false_and, Bool.false_eq_true, if_false, Bool.not_false, Bool.true_or, Bool.and_true]
      exact ⟨by omega, by rw [h2]; omega⟩
    | true =>
      by_cases hh : 0 < holdN l n (l.getD n ev0).task o
      · simp only [decide_eq_true hh, if_true, Bool.not_true, Bool.false_or, Bool.and_true]
        exact ⟨by omega, by rw [h2]; omega⟩
      · simp only [decide_eq_false hh, Bool.false_eq_true, if_false, if_true, Bool.not_true, Bool.or_self, Bool.and_false]
        exact ⟨by omega, fun h => (by cases h), fun h => (by omega)⟩
theorem some_acc (l : List Ev) (c : Int) : ∀ n, someJ l c n = true ↔ 0 < accN l n c
  | 0 => by simp [someJ, accN]
  | n + 1 => by
    have h := some_acc l c n
    have h0 := accN_nn l n c
    show _ ↔ 0 < accN l n c + _
    unfold someJ
    cases e : onCell l c n with
    | false => simp [h]
    | true => simp; omega
theorem guard_is (l : List Ev) (n : Nat) (c : Int) (o : Nat) : guardB l n c o = (allJ l c (o : Int) n && someJ l c n) := by
  have h1 := held_acc l c (o : Int) n
  have h2 := some_acc l c n
  rw [Bool.eq_iff_iff]
  unfold guardB
  simp only [Bool.and_eq_true, decide_eq_true_eq, beq_iff_eq]
  rw [h1.2, h2]
  constructor
  · rintro ⟨a, b⟩; exact ⟨b, by omega⟩
  · rintro ⟨a, b⟩; exact ⟨by omega, a⟩

set_option maxRecDepth 100000 in
set_option maxHeartbeats 4000000 in
theorem holds_any (w : World) (tb tof n0 c0 : Nat) (l : List Ev) (hli : Lies KE w tb tof l) (htb : tb < w.heap.size) (hln : l.length = n0) (hn : n0 ≤ 2000) (at_ : Nat) (hat : at_ < n0) (o : Int) (tA : Int) (htA : (l.getD at_ ev0).task = tA) :
    Calls Try.prog 29 #[.slice (some ⟨tb, tof, none⟩) n0 c0, .int .i64 (at_ : Int), .int .i64 o] w fun e w' => e = .returned (.int .i64 (holdN l at_ tA o)) ∧ Below w.heap.size w w' := by
  obtain ⟨⟨tz, oz, bz, vz⟩, ez⟩ : ∃ X, l.getD at_ ev0 = X := ⟨_, rfl⟩
  rw [ez] at htA
  dsimp only at htA
  subst htA
  have HLI := hide hli
  have HX := hide (Below.refl w.heap.size w)
  have HLN := hide hln
  have HEZ := hide ez
  clear hli hln ez
  go_enter Try.func29, Try.ntmps29
  go_wp2_with fail
  go_loopw [7, 8] (fun s7 i wr => ∃ (j : Nat) (v : Int), j ≤ at_ ∧ i = .int .i64 (j : Int) ∧ s7 = .int .i64 v ∧ Hid (holdN l j tz o = v) ∧ Hid (Below w.heap.size w wr)) (fun _ i _ => at_ - (intOf i).toNat)
  case atStart => exact ⟨0, 0, Nat.zero_le _, rfl, rfl, hide rfl, HX⟩
  case round =>
    obtain ⟨j, v, hj, rfl, rfl, HV, HBr⟩ := hrel
    clear HX
    by_cases hlt : j < at_
    · have i0 : (0 : Int) ≤ (j : Int) := by omega
      have i1 : (j : Int) < (at_ : Int) := by omega
      have i2 : (j : Int) < (n0 : Int) := by omega
      have i3 : (0 : Int) ≤ (at_ : Int) := by omega
      have i4 : (at_ : Int) < (n0 : Int) := by omega
      have hw1 : IntKind.i64.wrap ((j : Int) + 1) = (j : Int) + 1 := wrapi (by omega) (by omega)
      have hvn := holdN_nn l j tz o
      rw [unhide HV] at hvn
      have wv : IntKind.i64.wrap (v + 1) = v + 1 := wrapi (by omega) (by omega)
      have wm : IntKind.i64.wrap (v - 1) = v - 1 := wrapi (by omega) (by omega)
      obtain ⟨⟨tk, op, ob, vl⟩, ex⟩ : ∃ X, l.getD j ev0 = X := ⟨_, rfl⟩
      have hl2 := (unhide HLI).below (unhide HBr) htb
      obtain ⟨k0, k1, k2, k3⟩ := hl2.ev (j := j) (by rw [unhide HLN]; omega) ex
      obtain ⟨z0, z1, z2, z3⟩ := hl2.ev (j := at_) (by rw [unhide HLN]; omega) (unhide HEZ)
      have HST := hide (show holdN l (j + 1) tz o = holdS tz o v ⟨tk, op, ob, vl⟩ by
        show holdS tz o (holdN l j tz o) (l.getD j ev0) = _
        rw [ex, unhide HV])
      clear ex hl2
      by_cases ht : tk = tz
      · subst ht
        have x1 : (tk != tk) = false := by simp
        by_cases hb : ob = o
        · subst hb
          have x2 : (ob != ob) = false := by simp
          by_cases h17 : op = 17
          · subst h17
            have x3 : ((17 : Int) == 17) = true := rfl
            have x4 : ((17 : Int) == 18) = false := rfl
            have HS2 := hide (show holdS tk ob v ⟨tk, 17, ob, vl⟩ = v + 1 by simp [holdS])
            go_wp2
            go_quiet (fail)
            go_wp2
            go_roundw
            case rel => exact ⟨j + 1, v + 1, by omega, by go_num, rfl, hide (by rw [unhide HST, unhide HS2]), hide (below_drewN (unhide HBr) _)⟩
            case measure => simp [intOf]; omega
          · have x3 : (op == 17) = false := by simpa using h17
            by_cases h18 : op = 18
            · subst h18
              have x4 : ((18 : Int) == 18) = true := rfl
              by_cases hv0 : 0 < v
              · have HS2 := hide (show holdS tk ob v ⟨tk, 18, ob, vl⟩ = v - 1 by simp [holdS]; omega)
                clear h17
                go_wp2
                go_quiet (fail)
                go_wp2
                go_roundw
                case rel => exact ⟨j + 1, v - 1, by omega, by go_num, rfl, hide (by rw [unhide HST, unhide HS2]), hide (below_drewN (unhide HBr) _)⟩
                case measure => simp [intOf]; omega
              · have HS2 := hide (show holdS tk ob v ⟨tk, 18, ob, vl⟩ = v by simp [holdS]; omega)
                clear h17
                go_wp2
                go_quiet (fail)
                go_wp2
                go_roundw
                case rel => exact ⟨j + 1, v, by omega, by go_num, rfl, hide (by rw [unhide HST, unhide HS2]), hide (below_drewN (unhide HBr) _)⟩
                case measure => simp [intOf]; omega
            · have x4 : (op == 18) = false := by simpa using h18
              have HS2 := hide (show holdS tk ob v ⟨tk, op, ob, vl⟩ = v by simp [holdS, h17, h18])
              clear h17 h18
              go_wp2
              go_quiet (fail)
              go_wp2
              go_roundw
              case rel => exact ⟨j + 1, v, by omega, by go_num, rfl, hide (by rw [unhide HST, unhide HS2]), hide (below_drewN (unhide HBr) _)⟩
              case measure => simp [intOf]; omega
        · have x2 : (ob != o) = true := by simpa using hb
          have HS2 := hide (show holdS tk o v ⟨tk, op, ob, vl⟩ = v by simp [holdS, hb])
          clear hb
          go_wp2
          go_quiet (fail)
          go_wp2
          go_roundw
          case rel => exact ⟨j + 1, v, by omega, by go_num, rfl, hide (by rw [unhide HST, unhide HS2]), hide (below_drewN (unhide HBr) _)⟩
          case measure => simp [intOf]; omega
      · have x1 : (tk != tz) = true := by simpa using ht
        have HS2 := hide (show holdS tz o v ⟨tk, op, ob, vl⟩ = v by simp [holdS, ht])
        clear ht
        go_wp2
        go_quiet (fail)
        go_wp2
        go_roundw
        case rel => exact ⟨j + 1, v, by omega, by go_num, rfl, hide (by rw [unhide HST, unhide HS2]), hide (below_drewN (unhide HBr) _)⟩
        case measure => simp [intOf]; omega
    · obtain rfl : j = at_ := by omega
      have i1 : ¬ (j : Int) < (j : Int) := by omega
      have hvv := unhide HV
      go_wp2
      go_ret
      exact ⟨by first | rw [unhide HV]; rfl | rfl, unhide HBr⟩
end Go.Proofs.Ytbnmeeabpjmcoaa
