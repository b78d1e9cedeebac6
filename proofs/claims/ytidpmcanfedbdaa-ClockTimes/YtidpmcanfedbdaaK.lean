/-
  clock.without; sort.Search, clock.placeOf.
-/
import Derived.Test.YtidpmcanfedbdaaJ
import Derived.Test.YtidpmcanfedbdaaDb
namespace Go.Proofs.Ytidpmcanfedbdaa
open Go.RowKit

/-- The alarms but the alarm id. -/
def noL (id : Int) (xs : List Al) : List Al := leftL (fun p => p.1 == id) xs

theorem enters_without : ∀ args w, (callFunc 38 args).run Try.prog w = .ok (.enter 38 args) w := fun _ _ => by kernel_rfl

set_option maxRecDepth 100000 in
theorem without1_any (w : World) (g : Nat) (id t c u y : Int) (hg : w.heap[g]? = some (.cells #[.int .i64 id] 3 (0, 0))) :
    Calls Try.prog 38 #[.agg #[.int .i64 t, .int .i64 c, .int .i64 u, .int .i64 y], .pointer (some ⟨g, 0, none⟩)] w fun e w' => e = .returned (.bool (t == id)) ∧ Below w.heap.size w w' := by
  obtain ⟨g0, -, gl⟩ := block1 hg
  clear hg
  go_enter Try.func38, Try.ntmps38
  go_wp2
  go_ret
  exact ⟨rfl, (Below.refl _ _).alloc (Nat.le_refl _) _⟩

set_option maxRecDepth 100000 in
set_option maxHeartbeats 1000000 in
theorem without_any (w : World) (v : Value) (xs : List Al) (id : Int) (h : IsL KA w v xs) (hn : xs.length ≤ 100000) :
    Calls Try.prog 31 #[v, .int .i64 id] w fun e w' => ∃ a c, e = .returned (.slice a (noL id xs).length c) ∧ Own KA w.heap.size w' (.slice a (noL id xs).length c) (noL id xs) ∧ Below w.heap.size w w' := by
  obtain ⟨a0, c0, rfl⟩ := h.form
  have HX := hide ((Below.refl w.heap.size w).alloc (Nat.le_refl _) (.cells #[.int .i64 id] 3))
  have HG := hide (new_block w (.cells #[.int .i64 id] 3))
  have HL := hide (h.below (unhide HX))
  obtain ⟨m, em⟩ : ∃ m, (noL id xs).length = m := ⟨_, rfl⟩
  rw [em]
  have HM := hide em
  obtain ⟨n, en⟩ : ∃ n, xs.length = n := ⟨_, rfl⟩
  rw [en] at HL hn ⊢
  have HN := hide en
  clear h en em
  go_enter Try.func31, Try.ntmps31
  go_upto_region 1 with fail
  obtain ⟨W0, e0⟩ : ∃ W, w.alloc (.cells #[.int .i64 id] 3) = W := ⟨_, rfl⟩
  rw [e0] at HX HG HL ⊢
  clear e0
  have HFR := hide (fresh_any W0 _ xs (unhide HL) (by rw [unhide HN]; omega))
  rw [unhide HN] at HFR
  go_wp2_with (first
    | (go_at_call 35; refine (unhide HFR).mono ?_; rintro e w1 ⟨a1, c1, rfl, ho1, hb1⟩; have HO1 := hide ho1; have HX1 := hide (Below.next (unhide HX) hb1 (Nat.le_refl _)); have HG1 := hide (keep_below (unhide HG) hb1); clear ho1 hb1)
    | (go_at_call 37; refine (deleteFunc_any w1 W0.heap.size _ xs (unhide HO1) (by rw [unhide HN]; unfold maxLen; omega) 38 enters_without #[.pointer (some ⟨w.heap.size, 0, none⟩)] (fun p => p.1 == id) (fun W x hW => without1_any W w.heap.size id x.1 x.2.1 x.2.2.1 x.2.2.2 (keep_grown (unhide HG1) hW (fun j hj => Own.ne (unhide HO1) (unhide HG1) (by decide) j hj)))).mono ?_; rintro e w2 ⟨a2, m2, c2, rfl, hm2, ho2, hv2, hg2⟩; have e2 : m2 = m := hm2.trans (unhide HM); subst e2; have HO2 := hide (ho2.base (unhide HX).size); have HX2 := hide ((unhide HX1).grown hg2 (unhide HX1).size (fun k hk => Nat.le_trans (unhide HX).size ((unhide HO1).lt k hk).1)); clear ho2 hg2 hv2 hm2))
  go_ret
  exact ⟨a2, c2, rfl, unhide HO2, unhide HX2⟩

set_option maxRecDepth 100000 in
set_option maxHeartbeats 1000000 in
theorem search_any (w : World) (n : Nat) (hn : n ≤ 100000) (k : Nat) (hent : ∀ args w, (callFunc k args).run Try.prog w = .ok (.enter k args) w) (caps : Array Value) (p : Nat → Bool)
    (hc : ∀ W (i : Nat), Below w.heap.size w W → i < n → Calls Try.prog k (#[.int .i64 (i : Int)] ++ caps) W fun e w' => e = .returned (.bool (p i)) ∧ Below W.heap.size W w') :
    Calls Try.prog 45 #[.int .i64 (n : Int), .func (.func k) #[] caps] w fun e w' => ∃ r : Nat, e = .returned (.int .i64 (r : Int)) ∧ r ≤ n ∧ (0 < r → p (r - 1) = false) ∧ (r < n → p r = true) ∧ Below w.heap.size w w' := by
  have HC := hide hc
  clear hc
  go_enter Try.func45, Try.ntmps45
  go_wp2
  go_loopw [5, 6] (fun s i wr => ∃ (a b : Nat), a ≤ b ∧ b ≤ n ∧ s = .int .i64 a ∧ i = .int .i64 b ∧ (0 < a → p (a - 1) = false) ∧ (b < n → p b = true) ∧ Below w.heap.size w wr) (fun s i _ => (intOf i).toNat - (intOf s).toNat)
  case atStart => exact ⟨0, n, Nat.zero_le _, Nat.le_refl _, rfl, rfl, fun h => by omega, fun h => by omega, Below.refl _ _⟩
  case round =>
    obtain ⟨a, b, hab, hbn, rfl, rfl, h1, h2, hnx⟩ := hrel
    have H1 := hide h1; have H2 := hide h2; have HX := hide hnx
    clear h1 h2 hnx
    by_cases hlt : a < b
    · obtain ⟨m, em⟩ : ∃ m, (a + b) / 2 = m := ⟨_, rfl⟩
      have hmb : m < b := by omega
      have ham : a ≤ m := by omega
      have i2 : (a : Int) < (b : Int) := by omega
      have w1 : IntKind.i64.wrap ((a : Int) + (b : Int)) = (a : Int) + (b : Int) := wrapi (by omega) (by omega)
      have w2 : ((a : Int) + (b : Int)) / 2 = (m : Int) := by omega
      have HCW := hide (unhide HC wr m (unhide HX) (by omega))
      obtain ⟨r, hr⟩ : ∃ r, p m = r := ⟨_, rfl⟩
      rw [hr] at HCW
      have HR := hide hr
      clear em hr HC
      cases r with
      | true =>
        go_wp2_with (refine (unhide HCW).mono ?_; rintro e w3 ⟨rfl, hb3⟩; have HX3 := hide (Below.next (unhide HX) hb3 (Nat.le_refl _)); clear hb3)
        go_roundw
        case rel => exact ⟨a, m, ham, by omega, rfl, rfl, unhide H1, fun _ => unhide HR, unhide HX3⟩
        case measure => simp [intOf]; omega
      | false =>
        go_wp2_with (refine (unhide HCW).mono ?_; rintro e w3 ⟨rfl, hb3⟩; have HX3 := hide (Below.next (unhide HX) hb3 (Nat.le_refl _)); clear hb3)
        go_roundw
        case rel => exact ⟨m + 1, b, by omega, hbn, by go_num, rfl, fun _ => unhide HR, unhide H2, unhide HX3⟩
        case measure => simp [intOf]; omega
    · have hab2 : a = b := by omega
      subst hab2
      have i2 : ¬ (a : Int) < (a : Int) := by omega
      go_wp2
      go_ret
      exact ⟨a, rfl, hbn, unhide H1, unhide H2, unhide HX⟩

theorem enters_place : ∀ args w, (callFunc 46 args).run Try.prog w = .ok (.enter 46 args) w := fun _ _ => by kernel_rfl

set_option maxRecDepth 100000 in
set_option maxHeartbeats 1000000 in
theorem placeOf1_any (w : World) (G B : Nat) (t c u y : Int) (a0 : Option Addr) (n c0 : Nat) (xs : List Al) (i : Nat) (hB : w.heap[B]? = some (.cells #[.int .i64 t, .int .i64 c, .int .i64 u, .int .i64 y] 42 (0, 0))) (hG : w.heap[G]? = some (.cells #[.slice a0 n c0] 22 (0, 0))) (hL : IsL KA w (.slice a0 n c0) xs) (hi : i < n) :
    Calls Try.prog 46 #[.int .i64 (i : Int), .pointer (some ⟨B, 0, none⟩), .pointer (some ⟨G, 0, none⟩)] w fun e w' => e = .returned (.bool (ahead (t, c, u, y) (aAt xs i))) ∧ Below w.heap.size w w' := by
  have hlen : xs.length = n := hL.len
  obtain ⟨b0, o0, rfl, hb0, l0⟩ := hL.opens ka hlen (by omega)
  obtain ⟨⟨lt, lc, lu, ly⟩, hx⟩ : ∃ x, aAt xs i = x := ⟨_, rfl⟩
  rw [hx]
  have HG := hide (fun W => goesAhead_any W t c u y lt lc lu ly)
  obtain ⟨R, eR⟩ : ∃ R, ahead (t, c, u, y) (lt, lc, lu, ly) = R := ⟨_, rfl⟩
  rw [eR] at HG ⊢
  have HSS : Hid (∀ W, Below w.heap.size w W → (W.cell? ⟨B, 0, none⟩ = some (.int .i64 t) ∧ W.cell? ⟨B, 1, none⟩ = some (.int .i64 c) ∧ W.cell? ⟨B, 2, none⟩ = some (.int .i64 u) ∧ W.cell? ⟨B, 3, none⟩ = some (.int .i64 y)) ∧ W.cell? ⟨G, 0, none⟩ = some (.slice (some ⟨b0, o0, none⟩) n c0) ∧ (W.cell? ⟨b0, o0 + i * 4, none⟩ = some (.int .i64 lt) ∧ W.cell? ⟨b0, o0 + i * 4 + 1, none⟩ = some (.int .i64 lc) ∧ W.cell? ⟨b0, o0 + i * 4 + 2, none⟩ = some (.int .i64 lu) ∧ W.cell? ⟨b0, o0 + i * 4 + 3, none⟩ = some (.int .i64 ly)) ∧ Below w.heap.size w W) := fun W hW => by
    obtain ⟨p, -, -⟩ := block4 (keep_below hB hW)
    obtain ⟨q, -, -⟩ := block1 (keep_below hG hW)
    exact ⟨p, q, (l0.below hW hb0).alarm (by omega) hx, hW⟩
  have i1 : (0 : Int) ≤ (i : Int) := by omega
  have i2 : (i : Int) < (n : Int) := by omega
  clear hB hG hL l0 hx eR hb0
  obtain ⟨⟨p0, p1, p2, p3⟩, q2, ⟨l0, l1, l2, l3⟩, -⟩ := unhide HSS _ (Below.refl _ _)
  go_enter Try.func46, Try.ntmps46
  go_upto_region 1 with fail
  go_wp2_with fail
  go_region_held3 (fun W => (W.cell? ⟨B, 0, none⟩ = some (.int .i64 t) ∧ W.cell? ⟨B, 1, none⟩ = some (.int .i64 c) ∧ W.cell? ⟨B, 2, none⟩ = some (.int .i64 u) ∧ W.cell? ⟨B, 3, none⟩ = some (.int .i64 y)) ∧ W.cell? ⟨G, 0, none⟩ = some (.slice (some ⟨b0, o0, none⟩) n c0) ∧ (W.cell? ⟨b0, o0 + i * 4, none⟩ = some (.int .i64 lt) ∧ W.cell? ⟨b0, o0 + i * 4 + 1, none⟩ = some (.int .i64 lc) ∧ W.cell? ⟨b0, o0 + i * 4 + 2, none⟩ = some (.int .i64 lu) ∧ W.cell? ⟨b0, o0 + i * 4 + 3, none⟩ = some (.int .i64 ly)) ∧ Below w.heap.size w W)
    (first | with_reducible exact unhide HSS _ (Below.refl _ _).drew | with_reducible exact unhide HSS _ (unhide HX5))
    (first | (go_at_call 28; refine (unhide HG _).mono ?_; rintro e w5 ⟨rfl, hb5⟩; have HX5 : Hid (Below w.heap.size w w5) := Below.next (by go_split_ands; assumption) hb5 (Nat.le_refl _); clear hb5))
  all_goals
    clear p0 p1 p2 p3 q2 l0 l1 l2 l3
    go_wp2_with fail
    go_ret
    exact ⟨rfl, unhide HX5⟩

/-- How many alarms of a list go off ahead of another one, or with it. -/
def placeN (a : Al) (xs : List Al) : Nat := (xs.takeWhile (fun b => !ahead a b)).length
theorem takeWhile_len {q : Al → Bool} : ∀ (xs : List Al) (r : Nat), r ≤ xs.length → (∀ i, i < r → q (aAt xs i) = true) → (r < xs.length → q (aAt xs r) = false) → (xs.takeWhile q).length = r
  | [], r, h, _, _ => by simp at h; subst h; rfl
  | x :: l, 0, _, _, h => by
    have := h (by simp)
    have e : aAt (x :: l) 0 = x := rfl
    rw [e] at this
    rw [List.takeWhile_cons_of_neg (by rw [this]; simp)]
    rfl
  | x :: l, r + 1, h, h1, h2 => by
    have e0 : q x = true := h1 0 (Nat.succ_pos _)
    rw [List.takeWhile_cons_of_pos e0, List.length_cons, takeWhile_len l r (by simpa using h) (fun i hi => h1 (i + 1) (by omega)) (fun hr => h2 (by simpa using hr))]
/-- What goes off behind an alarm does so with all that stand behind it. -/
def Mono (a : Al) (xs : List Al) : Prop := ∀ i j, i ≤ j → j < xs.length → ahead a (aAt xs i) = true → ahead a (aAt xs j) = true

set_option maxRecDepth 100000 in
set_option maxHeartbeats 1000000 in
theorem placeOf_any (w : World) (v : Value) (xs : List Al) (t c u y : Int) (h : IsL KA w v xs) (hn : xs.length ≤ 100000) (hm : Mono (t, c, u, y) xs) :
    Calls Try.prog 40 #[v, .agg #[.int .i64 t, .int .i64 c, .int .i64 u, .int .i64 y]] w fun e w' => e = .returned (.int .i64 ((placeN (t, c, u, y) xs : Nat) : Int)) ∧ Below w.heap.size w w' := by
  obtain ⟨a0, c0, rfl⟩ := h.form
  have HM := hide hm
  obtain ⟨n, en⟩ : ∃ n, xs.length = n := ⟨_, rfl⟩
  rw [en] at h hn ⊢
  have HN := hide en; have HL := hide h
  obtain ⟨W0, e0, hB, k0, k1⟩ := two_new w (.cells #[.slice a0 n c0] 22) (.cells #[.int .i64 t, .int .i64 c, .int .i64 u, .int .i64 y] 42)
  have HX := hide hB; have HE := hide e0; have HK0 := hide k0; have HK1 := hide k1
  have HS := hide (search_any W0 n hn 46 enters_place #[.pointer (some ⟨w.heap.size + 1, 0, none⟩), .pointer (some ⟨w.heap.size, 0, none⟩)] (fun i => ahead (t, c, u, y) (aAt xs i)) (fun W i hW hi => placeOf1_any W w.heap.size (w.heap.size + 1) t c u y a0 n c0 xs i (keep_below k1 hW) (keep_below k0 hW) ((h.below hB).below hW) hi))
  clear h hm en hB e0 k0 k1
  go_enter Try.func40, Try.ntmps40
  go_upto_region 1 with fail
  rw [unhide HE]
  clear HE
  obtain ⟨p0, -, pl⟩ := block1 (unhide HK0)
  go_wp2_with (go_at_call 45; refine (unhide HS).mono ?_; rintro e w1 ⟨r, rfl, hr1, hr2, hr3, hb1⟩; have HX1 := hide (Below.next (unhide HX) hb1 (Nat.le_refl _)); have HR1 := hide hr1; have HR2 := hide hr2; have HR3 := hide hr3; clear hr1 hr2 hr3 hb1 p0 pl)
  go_ret
  refine ⟨?_, unhide HX1⟩
  have e : placeN (t, c, u, y) xs = r := by
    refine takeWhile_len xs r (by rw [unhide HN]; exact unhide HR1) (fun i hi => ?_) (fun hr => ?_)
    · have h1 := unhide HR2 (by omega)
      have h2 := unhide HM i (r - 1) (by omega) (by rw [unhide HN]; have := unhide HR1; omega)
      cases hq : ahead (t, c, u, y) (aAt xs i) with
      | false => rfl
      | true =>
        have h3 := h2 hq
        rw [h3] at h1
        cases h1
    · have h1 := unhide HR3 (by rw [unhide HN] at hr; exact hr)
      rw [h1]
      rfl
  rw [e]
  rfl
end Go.Proofs.Ytidpmcanfedbdaa
