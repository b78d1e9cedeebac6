/-
  buddy.halved.
-/
import Derived.Test.YtomhfnjnmhdpkaaG
namespace Go.Proofs.Ytomhfnjnmhdpkaa
open Go.RowKit

def lenOf' : Value → Nat | .slice _ n _ => n | _ => 0
theorem set2c {w : World} {R : Nat} {x y y' : Value} {t : TypeId} (h : w.heap[R]? = some (.cells #[x, y] t (0, 0))) : (w.setCell ⟨R, 1, none⟩ y').heap[R]? = some (.cells #[x, y'] t (0, 0)) := by
  simp [World.setCell, Array.getElem?_modify, h]
/-- What is left of a size that is halved as long as n units have room, and the second halves. -/
def halves (n t : Int) : Nat → Int → Int × List Bl
  | 0, c => (c, [])
  | k + 1, c => if n ≤ c / 2 then ((halves n t k (c / 2)).1, (t + c / 2, c / 2) :: (halves n t k (c / 2)).2) else (c, [])
theorem mate_half {t c : Int} (hp : pw c = true) (h1 : 1 < c) (hm : t % c = 0) : mateS t (c / 2) = t + c / 2 ∧ t % (c / 2) = 0 := by
  obtain ⟨h2, h3⟩ := pw_half hp h1
  have h4 := pw_pos h2
  obtain ⟨d, hd⟩ : ∃ d, c / 2 = d := ⟨_, rfl⟩
  rw [hd] at h3 h4 ⊢
  subst h3
  have e : t = 2 * d * (t / (2 * d)) := by
    have := Int.mul_ediv_add_emod t (2 * d)
    omega
  obtain ⟨q, hq⟩ : ∃ q, t / (2 * d) = q := ⟨_, rfl⟩
  rw [hq] at e
  have e2 : t / d = 2 * q := by
    rw [e, Int.mul_comm 2 d, Int.mul_assoc, Int.mul_ediv_cancel_left _ (by omega)]
  constructor
  · unfold mateS evn
    rw [e2]
    have : (2 * q % 2 == 0) = true := by simp
    rw [this]; rfl
  · rw [e, Int.mul_comm 2 d, Int.mul_assoc]
    exact Int.mul_emod_right _ _

set_option maxRecDepth 100000 in
set_option maxHeartbeats 4000000 in
theorem halved_any (w : World) (t c n : Int) (K : Nat) (hp : pw c = true) (h0 : 0 ≤ t) (ht : t ≤ 1073741824) (hm : t % c = 0) (hn : 1 ≤ n) (hK : c ≤ (2 : Int) ^ K) (hK2 : K ≤ 40) :
    Calls Try.prog 27 #[.agg #[.int .i64 t, .int .i64 c], .int .i64 n] w fun e w' => ∃ a cp, e = .returned (.tuple #[.agg #[.int .i64 t, .int .i64 (halves n t K c).1], .slice a (halves n t K c).2.length cp]) ∧ Own KB w.heap.size w' (.slice a (halves n t K c).2.length cp) (halves n t K c).2 ∧ Below w.heap.size w w' := by
  obtain ⟨FC, eFC⟩ : ∃ X, (halves n t K c).1 = X := ⟨_, rfl⟩
  obtain ⟨FL, eFL⟩ : ∃ X, (halves n t K c).2 = X := ⟨_, rfl⟩
  have HE0 : Hid (FC = (halves n t K c).1 ∧ FL = [] ++ (halves n t K c).2) := ⟨eFC.symm, eFL.symm⟩
  rw [eFC, eFL]
  obtain ⟨W, e0, hB, k0, k1⟩ := two_new w (.cells #[.int .i64 t, .int .i64 c] 38) (.cells #[.int .i64 0, .int .i64 0] 38)
  have HX0 := hide hB; have HE := hide e0; have HK0 := hide k0; have HK1 := hide k1
  have HLEN := hide (size_of k1)
  have HP0 : Hid (pw c = true ∧ t % c = 0 ∧ c ≤ (2 : Int) ^ K) := ⟨hp, hm, hK⟩
  have HON := hide (own_nil (K := KB) (w.heap.size + 2) W)
  clear hB e0 k0 k1 eFC eFL hp hm hK
  go_enter Try.func27, Try.ntmps27
  go_upto_region 2 with fail
  rw [unhide HE]
  clear HE
  go_loopw [6] (fun s6 wr => ∃ (k r cp : Nat) (c' : Int) (a : Option Addr) (L : List Bl), s6 = .slice a r cp ∧ r + k = K ∧ Hid (pw c' = true ∧ t % c' = 0 ∧ c' ≤ (2 : Int) ^ k) ∧ Hid (FC = (halves n t k c').1 ∧ FL = L ++ (halves n t k c').2) ∧ Hid (L.length = r) ∧ Hid (Own KB (w.heap.size + 2) wr (.slice a r cp) L) ∧ Hid (wr.heap[w.heap.size]? = some (.cells #[.int .i64 t, .int .i64 c'] 38 (0, 0))) ∧ Hid (wr.heap[w.heap.size + 1]? = some (.cells #[.int .i64 0, .int .i64 0] 38 (0, 0))) ∧ Hid (Below w.heap.size w wr)) (fun s _ => K - lenOf' s)
  case atStart => exact ⟨K, 0, 0, c, none, [], rfl, by omega, HP0, HE0, hide rfl, HON, HK0, HK1, HX0⟩
  case round =>
    clear HP0 HE0 HON HK0 HK1 HX0 HLEN
    obtain ⟨k, r, cp, c, a, L, rfl, hrk, HP, HE, HL, HO, HA, HB, HX⟩ := hrel
    have hp1 := pw_pos (unhide HP).1
    have hp2 := pw_le (unhide HP).1
    obtain ⟨p0, p1, f0, f1, pl⟩ := block2 (unhide HA)
    obtain ⟨q0, q1, g0, g1, ql⟩ := block2 (unhide HB)
    have hc0 : (0 : Int) ≤ c := by omega
    by_cases hge : n ≤ c / 2
    · obtain ⟨k, rfl⟩ : ∃ k', k = k' + 1 := by
        cases k with
        | zero =>
          have := (unhide HP).2.2
          rw [Int.pow_zero] at this
          omega
        | succ k => exact ⟨k, rfl⟩
      obtain ⟨hh1, hh2⟩ := pw_half (unhide HP).1 (by omega)
      obtain ⟨hh3, hh4⟩ := mate_half (unhide HP).1 (by omega) (unhide HP).2.1
      have hh5 : c / 2 ≤ (2 : Int) ^ k := by
        have := (unhide HP).2.2
        rw [Int.pow_succ] at this
        omega
      obtain ⟨d, hd⟩ : ∃ d, c / 2 = d := ⟨_, rfl⟩
      have HE2 : Hid (FC = (halves n t k d).1 ∧ FL = (L ++ [(t + d, d)]) ++ (halves n t k d).2) := by
        have h1 := unhide HE
        have e2 : halves n t (k + 1) c = ((halves n t k (c / 2)).1, (t + c / 2, c / 2) :: (halves n t k (c / 2)).2) := by rw [halves, if_pos hge]
        rw [e2, hd] at h1
        refine ⟨h1.1, ?_⟩
        rw [h1.2]
        simp
      rw [hd] at hh1 hh2 hh3 hh4 hh5 hge
      have hd0 := pw_pos hh1
      have hdl := pw_le hh1
      have htd : c.tdiv 2 = d := by rw [Int.tdiv_eq_ediv_of_nonneg hc0]; exact hd
      have HM : Hid (∀ W, Calls Try.prog 41 #[.agg #[.int .i64 t, .int .i64 d]] W fun e w' => e = .returned (.agg #[.int .i64 (t + d), .int .i64 d]) ∧ Below W.heap.size W w') := fun W => by
        have := mateOf_any W t d hh1 h0 hh4 (by omega)
        rw [hh3] at this
        exact this
      have HP2 : Hid (pw d = true ∧ t % d = 0 ∧ d ≤ (2 : Int) ^ k) := ⟨hh1, hh4, hh5⟩
      have HA2 : Hid ((wr.setCell ⟨w.heap.size, 1, none⟩ (.int .i64 d)).heap[w.heap.size]? = some (.cells #[.int .i64 t, .int .i64 d] 38 (0, 0))) := set2c (unhide HA)
      have HB2 := hide (keep_set (g := w.heap.size) (o := 1) (v := .int .i64 d) (unhide HB) (by omega))
      have HO2 := hide ((unhide HO).set (R := w.heap.size) (i := 1) (y := .int .i64 d) (by omega))
      have HX2 := hide (below_set (unhide HX) (Nat.le_refl _) (.int .i64 d) (i := 1))
      obtain ⟨W1, e1⟩ : ∃ X, wr.setCell ⟨w.heap.size, 1, none⟩ (.int .i64 d) = X := ⟨_, rfl⟩
      rw [e1] at HA2 HB2 HO2 HX2
      have HE1 := hide e1
      clear e1 hh1 hh2 hh3 hh4 hh5 HP HE
      go_upto_region 4 with fail
      rw [unhide HE1]
      clear HE1 p0 p1 f0 f1 pl q0 q1 g0 g1 ql HA HB HO HX
      obtain ⟨p0, p1, f0, f1, pl⟩ := block2 (unhide HA2)
      go_wp2_with (first
        | (go_at_call 41; refine (unhide HM _).mono ?_; rintro e w3 ⟨rfl, hb3⟩; have HX3 := hide (Below.next (unhide HX2) hb3 (Nat.le_refl _)); have HA3 := hide (keep_below (unhide HA2) hb3); have HB3 := hide (keep_below (unhide HB2) hb3); have HO3 := hide ((unhide HO2).below hb3); have HZ := hide ((unhide HX3).alloc (unhide HX3).size (.cells #[.int .i64 (t + d), .int .i64 d] 38)); have HA4 := hide (keep_alloc (unhide HA3) (.cells #[.int .i64 (t + d), .int .i64 d] 38)); have HB4 := hide (keep_alloc (unhide HB3) (.cells #[.int .i64 (t + d), .int .i64 d] 38)); have HO4 := hide ((unhide HO3).below ((Below.refl _ _).alloc (Nat.le_refl _) (.cells #[.int .i64 (t + d), .int .i64 d] 38))); have HI4 : Hid (IsL KB (w3.alloc (.cells #[.int .i64 (t + d), .int .i64 d] 38)) (.slice (some ⟨w3.heap.size, 0, none⟩) 1 1) [(t + d, d)]) := isl_one kb w3 (t + d, d); have HSZ : Hid (w.heap.size + 2 ≤ (w3.alloc (.cells #[.int .i64 (t + d), .int .i64 d] 38)).heap.size) := size_of (unhide HB4); clear hb3)
        | (at_builtin; refine wpList_append kb rfl _ _ rfl (w.heap.size + 2) _ L rfl (unhide HO4) _ [(t + d, d)] rfl (unhide HI4) (r + 1) (by simp [unhide HL]) (by simp [KB]; omega) (unhide HSZ) ?_; intro a7 c7 w7 ho7 hg7; have HO7 := hide ho7; have HX7 := hide ((unhide HZ).grown hg7 (unhide HZ).size (fun k hk => by have := ((unhide HO4).lt k hk).1; omega)); have HA7 := hide (keep_grown (unhide HA4) hg7 (fun k hk => by have := ((unhide HO4).lt k hk).1; omega)); have HB7 := hide (keep_grown (unhide HB4) hg7 (fun k hk => by have := ((unhide HO4).lt k hk).1; omega)); clear ho7 hg7))
      go_roundw
      case rel => exact ⟨k, r + 1, c7, d, a7, L ++ [(t + d, d)], rfl, by omega, HP2, HE2, hide (by simp [unhide HL]), HO7, HA7, HB7, HX7⟩
      case measure => simp [lenOf']; omega
    · have e2 : (halves n t k c) = (c, []) := by
        cases k with
        | zero => rfl
        | succ k => rw [halves, if_neg hge]
      have h1 := unhide HE
      rw [e2, List.append_nil] at h1
      have HF := hide h1
      have HXF := hide (below_set2 (unhide HX) (Nat.le_succ _) (.int .i64 t) (.int .i64 c) (R := w.heap.size + 1))
      have HBF := hide (set2_block (x' := .int .i64 t) (y' := .int .i64 c) (unhide HB))
      have HOF := hide (((unhide HO).set (R := w.heap.size + 1) (i := 0) (y := .int .i64 t) (by omega)).set (R := w.heap.size + 1) (i := 1) (y := .int .i64 c) (by omega))
      have htd : ¬ n ≤ c.tdiv 2 := by rw [Int.tdiv_eq_ediv_of_nonneg hc0]; exact hge
      clear h1 e2 HE HP HA HB HO HX
      go_wp2_with fail
      obtain ⟨s0, s1, -⟩ := block2 (unhide HBF)
      obtain ⟨e3, e4⟩ := unhide HF
      subst e3 e4
      rw [unhide HL]
      exact bodyPost_ret (v := .tuple #[.agg #[.int .i64 t, .int .i64 FC], .slice a r cp]) (by simp [results, Try.results27, go_sem, s0, s1]) rfl ⟨a, cp, rfl, (unhide HOF).base (by omega), unhide HXF⟩
end Go.Proofs.Ytomhfnjnmhdpkaa
