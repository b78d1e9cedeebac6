/-
  taskmilllaw.SyncWaits.
-/
import Derived.Test.YtpogcfdmkeebmaaR
import Derived.Test.YtpogcfdmkeebmaaBe
import Derived.Test.YtpogcfdmkeebmaaSa
import Derived.Test.YtpogcfdmkeebmaaOb
import Derived.Test.YtpogcfdmkeebmaaOc
namespace Go.Proofs.Ytpogcfdmkeebmaa
open Go.RowKit

theorem new_block2 (w : World) (o o2 : Obj) : ((w.alloc o).alloc o2).heap[w.heap.size + 1]? = some o2 := by
  have := new_block (w.alloc o) o2
  rw [World.size_alloc] at this
  exact this
theorem two_le (w : World) (o o2 : Obj) : w.heap.size + 1 + 1 ≤ ((w.alloc o).alloc o2).heap.size := by rw [World.size_alloc, World.size_alloc]; exact Nat.le_refl _
/-- A group and a fault in variables of their own, and two lists, behind a call. -/
structure Got2 (WB W : World) (Y1 Y2 : Nat) (y0 y1 v2 : Value) (L1 L2 : List Int) : Prop where
  h : W.heap[Y1]? = some (.cells #[y0, y1] 24 (0, 0))
  f : W.heap[Y2]? = some (.cells #[.int .i64 0, .int .i64 0] 29 (0, 0))
  b1 : WB.heap.size ≤ Y1
  b2 : WB.heap.size ≤ Y2
  ne : Y1 ≠ Y2
  n1 : New KI WB.heap.size W y1 L1
  n2 : New KI WB.heap.size W v2 L2
  bel : Below WB.heap.size WB W
abbrev Zh : Obj := .cells #[.int .i64 0, .slice none 0 0] 24
abbrev Zf : Obj := .cells #[.int .i64 0, .int .i64 0] 29
section
variable {WB w3 : World} {y0 y1 v2 : Value} {L1 L2 : List Int} (hX : Below WB.heap.size WB w3)
include hX
theorem got_1 (h1 : New KI WB.heap.size w3 y1 L1) (h2 : New KI WB.heap.size w3 v2 L2) : Got2 WB ((w3.alloc (.cells #[y0, y1] 24)).alloc Zf) w3.heap.size (w3.heap.size + 1) y0 y1 v2 L1 L2 := by
  have hb : Below w3.heap.size w3 ((w3.alloc (.cells #[y0, y1] 24)).alloc Zf) := ((Below.refl _ _).alloc (Nat.le_refl _) _).alloc (by simp) _
  exact ⟨keep_alloc (new_block _ _) _, new_block2 _ _ _, hX.size, Nat.le_succ_of_le hX.size, by omega, h1.below hb, h2.below hb, Below.next hX hb (Nat.le_refl _)⟩
theorem got_2 (h1 : New KI WB.heap.size w3 y1 L1) (h2 : New KI WB.heap.size w3 v2 L2) : Got2 WB ((w3.alloc Zf).alloc (.cells #[y0, y1] 24)) (w3.heap.size + 1) w3.heap.size y0 y1 v2 L1 L2 := by
  have hb : Below w3.heap.size w3 ((w3.alloc Zf).alloc (.cells #[y0, y1] 24)) := ((Below.refl _ _).alloc (Nat.le_refl _) _).alloc (by simp) _
  exact ⟨new_block2 _ _ _, keep_alloc (new_block _ _) _, Nat.le_succ_of_le hX.size, hX.size, by omega, h1.below hb, h2.below hb, Below.next hX hb (Nat.le_refl _)⟩
theorem got_3 (hz : w3.heap[WB.heap.size]? = some Zh) (h1 : New KI (WB.heap.size + 1) w3 y1 L1) (h2 : New KI (WB.heap.size + 1) w3 v2 L2) : Got2 WB ((put2 w3 WB.heap.size y0 y1).alloc Zf) WB.heap.size w3.heap.size y0 y1 v2 L1 L2 := by
  have hs : (put2 w3 WB.heap.size y0 y1).heap.size = w3.heap.size := by simp [put2, World.setCell]
  have hl := size_of hz
  have hn := new_block (put2 w3 WB.heap.size y0 y1) Zf
  rw [hs] at hn
  have hb : Below (put2 w3 WB.heap.size y0 y1).heap.size (put2 w3 WB.heap.size y0 y1) ((put2 w3 WB.heap.size y0 y1).alloc Zf) := (Below.refl _ _).alloc (Nat.le_refl _) _
  refine ⟨keep_alloc (put2_new hz) _, hn, Nat.le_refl _, by omega, by omega, ?_, ?_, ?_⟩
  · exact ((h1.keep ki (fun k hk _ => put2_keep (by omega))).below hb).base (by omega)
  · exact ((h2.keep ki (fun k hk _ => put2_keep (by omega))).below hb).base (by omega)
  · exact Below.next (put2_below hX (Nat.le_refl _)) hb (Nat.le_refl _)
theorem got_4 (hz : w3.heap[WB.heap.size]? = some Zh) (hz2 : w3.heap[WB.heap.size + 1]? = some Zf) (h1 : New KI (WB.heap.size + 1 + 1) w3 y1 L1) (h2 : New KI (WB.heap.size + 1 + 1) w3 v2 L2) : Got2 WB (put2 (put2 w3 WB.heap.size y0 y1) (WB.heap.size + 1) (.int .i64 0) (.int .i64 0)) WB.heap.size (WB.heap.size + 1) y0 y1 v2 L1 L2 := by
  refine ⟨(put2_keep (by omega)).trans (put2_new hz), put2_new ((put2_keep (by omega)).trans hz2), Nat.le_refl _, Nat.le_succ _, by omega, ?_, ?_, put2_below (put2_below hX (Nat.le_refl _)) (Nat.le_succ _)⟩
  · exact (h1.keep ki (fun k hk _ => (put2_keep (by omega)).trans (put2_keep (by omega)))).base (by omega)
  · exact (h2.keep ki (fun k hk _ => (put2_keep (by omega)).trans (put2_keep (by omega)))).base (by omega)
theorem got_5 (hz : w3.heap[WB.heap.size]? = some Zf) (h1 : New KI (WB.heap.size + 1) w3 y1 L1) (h2 : New KI (WB.heap.size + 1) w3 v2 L2) : Got2 WB ((put2 w3 WB.heap.size (.int .i64 0) (.int .i64 0)).alloc (.cells #[y0, y1] 24)) w3.heap.size WB.heap.size y0 y1 v2 L1 L2 := by
  have hs : (put2 w3 WB.heap.size (.int .i64 0) (.int .i64 0)).heap.size = w3.heap.size := by simp [put2, World.setCell]
  have hl := size_of hz
  have hn := new_block (put2 w3 WB.heap.size (.int .i64 0) (.int .i64 0)) (.cells #[y0, y1] 24)
  rw [hs] at hn
  have hb : Below (put2 w3 WB.heap.size (.int .i64 0) (.int .i64 0)).heap.size (put2 w3 WB.heap.size (.int .i64 0) (.int .i64 0)) ((put2 w3 WB.heap.size (.int .i64 0) (.int .i64 0)).alloc (.cells #[y0, y1] 24)) := (Below.refl _ _).alloc (Nat.le_refl _) _
  refine ⟨hn, keep_alloc (put2_new hz) _, by omega, Nat.le_refl _, by omega, ?_, ?_, ?_⟩
  · exact ((h1.keep ki (fun k hk _ => put2_keep (by omega))).below hb).base (by omega)
  · exact ((h2.keep ki (fun k hk _ => put2_keep (by omega))).below hb).base (by omega)
  · exact Below.next (put2_below hX (Nat.le_refl _)) hb (Nat.le_refl _)
theorem got_6 (hz : w3.heap[WB.heap.size]? = some Zf) (hz2 : w3.heap[WB.heap.size + 1]? = some Zh) (h1 : New KI (WB.heap.size + 1 + 1) w3 y1 L1) (h2 : New KI (WB.heap.size + 1 + 1) w3 v2 L2) : Got2 WB (put2 (put2 w3 (WB.heap.size + 1) y0 y1) WB.heap.size (.int .i64 0) (.int .i64 0)) (WB.heap.size + 1) WB.heap.size y0 y1 v2 L1 L2 := by
  refine ⟨(put2_keep (by omega)).trans (put2_new hz2), put2_new ((put2_keep (by omega)).trans hz), Nat.le_succ _, Nat.le_refl _, by omega, ?_, ?_, put2_below (put2_below hX (Nat.le_succ _)) (Nat.le_refl _)⟩
  · exact (h1.keep ki (fun k hk _ => (put2_keep (by omega)).trans (put2_keep (by omega)))).base (by omega)
  · exact (h2.keep ki (fun k hk _ => (put2_keep (by omega)).trans (put2_keep (by omega)))).base (by omega)
end
/-- What was added ahead of the place j. -/
def sumTo (zs : List Int) (j : Nat) : Int := (zs.take j).sum
theorem sumTo_zero (zs : List Int) : sumTo zs 0 = 0 := rfl
theorem sumTo_succ {zs : List Int} {j : Nat} (h : j < zs.length) : sumTo zs (j + 1) = sumTo zs j + zs.getD j 0 := by
  unfold sumTo
  rw [take_get (0 : Int) h, List.sum_append]
  simp
/-- The numbers ahead of j are from 1 to 1000. -/
def Fine (zs : List Int) (j : Nat) : Prop := ∀ i, i < j → 1 ≤ zs.getD i 0 ∧ zs.getD i 0 ≤ 1000
theorem Fine.bound {zs : List Int} {j : Nat} (h : Fine zs j) (hj : j ≤ zs.length) : (j : Int) ≤ sumTo zs j ∧ sumTo zs j ≤ 1000 * j := by
  induction j with
  | zero => simp [sumTo]
  | succ j ih =>
    have h1 := ih (fun i hi => h i (by omega)) (by omega)
    have h2 := h j (by omega)
    rw [sumTo_succ (by omega)]
    omega
theorem sumTo_rest {zs : List Int} {j k : Nat} (h : Fine zs k) (hj : j ≤ k) (hk : k ≤ zs.length) : ((k - j : Nat) : Int) ≤ sumTo zs k - sumTo zs j := by
  induction k with
  | zero =>
    have : j = 0 := by omega
    subst this
    simp
  | succ k ih =>
    by_cases e : j = k + 1
    · subst e
      simp
    · have h1 := ih (fun i hi => h i (by omega)) (by omega) (by omega)
      have h2 := h k (by omega)
      rw [sumTo_succ (by omega)]
      omega
theorem new_grown {B : Nat} {W w' : World} {v : Value} {xs : List Int} {row : Option Nat} {o : Obj} (h : New KI B W v xs) (hg : (W.alloc o).grownBy w' row) (hr : ∀ k, row = some k → k < B) : New KI B w' v xs := h.keep ki fun k hk hl => by
  obtain ⟨_, _, _, _, hb⟩ := hg
  rw [hb k (by simp; omega) (by cases row with | none => simp | some j => have := hr j rfl; simp; omega)]
  exact Below.heap_alloc _ _ _ hl
/-- Those who wait ahead of the task q. -/
def LL (S : Int) (q : Nat) : List Int := if S = 0 then [] else upTo 1 q
theorem LL_one (S : Int) : LL S 1 = [] := by
  unfold LL
  split
  · rfl
  · exact upTo_nil (Nat.le_refl _)
theorem group_take {R m : Int} {L : List Int} (hl : lineF L = (0, 0)) (hR : 1 ≤ R) (hR2 : R ≤ 200000) (hm : 1 ≤ m) (hm2 : m ≤ 1000) (hr : 0 ≤ R - m) : (addF R L (-m)).1 = 0 ∧ (R - m = 0 → addR R L (-m) = (((0, []), L), false)) ∧ (¬ R - m = 0 → addR R L (-m) = (((R - m, L), []), false)) := by
  have hg : groupF R L = (0, 0) := by
    unfold groupF
    rw [hl, if_neg (by simp), if_neg (by omega), if_neg (fun h => by have := h.1; omega)]
  refine ⟨?_, fun hz => ?_, fun hz => ?_⟩
  · unfold addF
    rw [hg, if_neg (by simp), if_neg (by omega), if_neg (by omega)]
  · unfold addR
    rw [if_neg (by omega), if_pos (by omega)]
  · unfold addR
    rw [if_neg (by omega), if_neg (by omega), show R + -m = R - m by omega]
theorem isl_empty2 {w : World} {v : Value} (h : IsL KI w v []) : ∀ W, IsL KI W v [] := fun W => by
  obtain ⟨⟨hl, ⟨h1, h2⟩ | ⟨ad, c, h1, -⟩⟩, hf⟩ := h
  · subst h1
    exact isl_nil W
  · subst h1
    exact IsL.none_left rfl
/-- Those who wait while so many numbers were taken away. -/
def gL (zs : List Int) (_n : Nat) (S : Int) (q k : Nat) : List Int := if S - sumTo zs k = 0 then [] else LL S q
theorem gL_zero {zs : List Int} {n q : Nat} {S : Int} (_h : sumTo zs n = S) : LL S q = gL zs n S q 0 := by
  unfold gL
  rw [show S - sumTo zs 0 = S by simp [sumTo]]
  by_cases h0 : S = 0
  · rw [if_pos h0]
    unfold LL
    rw [if_pos h0]
  · rw [if_neg h0]
theorem LL_line {S : Int} {q : Nat} (hq : q ≤ 100) : lineF (LL S q) = (0, 0) ∧ (LL S q).length ≤ q := by
  unfold LL
  split
  · exact ⟨rfl, Nat.zero_le _⟩
  · exact ⟨upTo_line (Nat.le_refl _) (by omega), by rw [upTo_length]; omega⟩
theorem group_await {S : Int} {q : Nat} (h0 : 0 ≤ S) (h1 : S ≤ 1000000) (hq : 1 ≤ q) (hq2 : q ≤ 60) : (awaitF S (LL S q) (q : Int)).1 = 0 ∧ awaitR S (LL S q) (q : Int) = ((S, LL S (q + 1)), decide (S = 0)) := by
  obtain ⟨hl, -⟩ := LL_line (S := S) (q := q) (by omega)
  have hg : groupF S (LL S q) = (0, 0) := by
    unfold groupF
    rw [hl, if_neg (by simp), if_neg (by omega), if_neg]
    rintro ⟨hs, hp⟩
    unfold LL at hp
    rw [if_pos hs] at hp
    exact absurd hp (by simp)
  constructor
  · unfold awaitF
    rw [hg, if_neg (by simp)]
    unfold LL
    split
    · unfold comesF
      rw [if_neg (by omega), if_neg (by simp), if_neg (by simp)]
    · exact upTo_comes (by omega) (Int.le_refl _) (by omega)
  · unfold awaitR
    by_cases hs : S = 0
    · rw [if_pos hs, decide_eq_true hs]
      unfold LL
      rw [if_pos hs, hs]
    · rw [if_neg hs, decide_eq_false hs]
      unfold LL
      rw [if_neg hs, if_neg hs, upTo_snoc hq]
theorem group_add {c a : Int} (hc : 0 ≤ c) (hc2 : c ≤ 1000000) (ha : 1 ≤ a) (ha2 : a ≤ 1000) : (addF c [] a).1 = 0 ∧ addR c [] a = (((c + a, []), []), false) := by
  have hg : groupF c [] = (0, 0) := by
    unfold groupF
    rw [show lineF [] = (0, 0) from rfl, if_neg (by simp), if_neg (by omega), if_neg (by simp)]
  constructor
  · unfold addF
    rw [hg, if_neg (by simp), if_neg (by omega), if_neg (by omega)]
  · unfold addR
    rw [if_neg (by omega), if_neg (by omega)]

set_option maxRecDepth 100000 in
set_option maxHeartbeats 8000000 in
theorem waits_walk (w : World) (v : Value) (zs : List Int) (x : Int) (h : IsL KI w v zs) (hm : zs.length * 8 ≤ 140737488355328) : Calls Try.prog 8 #[v, .int .i64 x] w fun e w' => e = .returned (.bool true) ∧ Below w.heap.size w w' := by
  have hnot : ∀ (x : Bool) (w : World), (Op.unary .not (.bool x)).run Try.prog w = .ok (.bool (!x)) w := fun _ _ => rfl
  obtain ⟨a0, c0, rfl⟩ := h.form
  have HL := hide h
  obtain ⟨n, en⟩ : ∃ n, zs.length = n := ⟨_, rfl⟩
  rw [en] at HL hm ⊢
  have HN := hide en
  clear h en
  by_cases hn1 : 100 < n
  · have hn2 : (100 : Int) < (n : Int) := by omega
    go_enter Try.func8, Try.ntmps8
    go_wp2_with (go_at_call 9; refine (begun_any _).mono ?_; rintro e w1 ⟨rfl, hb1⟩; have HX := hide hb1; clear hb1)
    go_ret
    exact ⟨rfl, unhide HX⟩
  have hn2 : ¬ (100 : Int) < (n : Int) := by omega
  by_cases hx0 : x < 0
  · go_enter Try.func8, Try.ntmps8
    go_wp2_with (go_at_call 9; refine (begun_any _).mono ?_; rintro e w1 ⟨rfl, hb1⟩; have HX := hide hb1; clear hb1)
    go_ret
    exact ⟨rfl, unhide HX⟩
  by_cases hx1 : 50 < x
  · go_enter Try.func8, Try.ntmps8
    go_wp2_with (go_at_call 9; refine (begun_any _).mono ?_; rintro e w1 ⟨rfl, hb1⟩; have HX := hide hb1; clear hb1)
    go_ret
    exact ⟨rfl, unhide HX⟩
  obtain ⟨tk, rfl⟩ : ∃ t : Nat, x = (t : Int) := ⟨x.toNat, by omega⟩
  go_enter Try.func8, Try.ntmps8
  go_upto_region 5 with (go_at_call 9; refine (begun_any _).mono ?_; rintro e w1 ⟨rfl, hb1⟩; have HX := hide hb1; clear hb1)
  go_upto_region 6 with fail
  have htw : w.heap.size ≤ w1.heap.size := (unhide HX).size
  have HX_1 := hide ((unhide HX).alloc (Nat.le_trans (show w.heap.size ≤ w.heap.size from Nat.le_refl _) (unhide HX).size) (.cells #[.int .i64 0, .slice none 0 0] 24))
  have Kp_1 := hide (new_block w1 (.cells #[.int .i64 0, .slice none 0 0] 24))
  obtain ⟨T, eT⟩ : ∃ X, w1.heap.size = X := ⟨_, rfl⟩
  obtain ⟨W2, eW2⟩ : ∃ X, w1.alloc (.cells #[.int .i64 0, .slice none 0 0] 24) = X := ⟨_, rfl⟩
  rw [eT, eW2] at Kp_1; rw [eW2] at HX_1; rw [eT] at htw; rw [eT, eW2]
  clear eT eW2 HX
  have HBA : Hid (w.heap.size ≤ T) := htw
  clear htw
  go_wp2_with fail
  go_loopw [6, 7] (fun g i W => ∃ (j : Nat) (a : Option Addr) (c : Nat), j ≤ n ∧ g = .int .i64 (sumTo zs j) ∧ i = .int .i64 j ∧ Hid (Fine zs j) ∧ Hid (W.heap[T]? = some (.cells #[.int .i64 (sumTo zs j), .slice a 0 c] 24)) ∧ Hid (New KI (T + 1) W (.slice a 0 c) []) ∧ Hid (Below w.heap.size w W)) (fun _ i _ => n - (intOf i).toNat)
  case atStart => exact ⟨0, none, 0, Nat.zero_le _, rfl, rfl, (fun i hi => absurd hi (Nat.not_lt_zero i)), Kp_1, new_nil _ _, HX_1⟩
  case round =>
    obtain ⟨j, a, c, hj, rfl, rfl, HF, HPj, HIj, HXj⟩ := hrel
    clear Kp_1 HX_1
    by_cases hlt : j < n
    · obtain ⟨b0, o0, rfl, hb0, l0⟩ := (unhide HL).opens ki (unhide HN) (by omega)
      have k9 := (l0.below (unhide HXj) hb0).ints (j := j) (by rw [unhide HN]; exact hlt)
      have hsc := sumTo_succ (zs := zs) (j := j) (by rw [unhide HN]; exact hlt)
      obtain ⟨hs0, hs1⟩ := (unhide HF).bound (by rw [unhide HN]; omega)
      obtain ⟨m, em⟩ : ∃ m, zs.getD j 0 = m := ⟨_, rfl⟩
      rw [em] at k9 hsc
      have HEM := hide em
      have HSC := hide hsc
      have HB0 : Hid (b0 < wr.heap.size) := Nat.lt_of_lt_of_le hb0 (unhide HXj).size
      have i0 : (0 : Int) ≤ (j : Int) := by omega
      have i1 : (j : Int) < (n : Int) := by omega
      have HLI := hide l0
      clear em l0 hsc
      by_cases hm1 : m < 1
      · go_wp2_with fail
        go_ret
        exact ⟨rfl, unhide HXj⟩
      by_cases hm2 : 1000 < m
      · go_wp2_with fail
        go_ret
        exact ⟨rfl, unhide HXj⟩
      obtain ⟨hf, he⟩ := group_add (c := sumTo zs j) (a := m) (by omega) (by omega) (by omega) (by omega)
      generalize sumTo zs j = S at *
      have HAD : Hid (∀ W v', IsG KI W v' S [] → Calls Try.prog 12 #[v', .int .i64 m] W fun e w' => ∃ a1 d1 a2 d2, e = .returned (.tuple #[.agg #[.int .i64 (S + m), .slice a1 0 d1], .slice a2 0 d2, .bool false, .agg #[.int .i64 0, .int .i64 0]]) ∧ New KI W.heap.size w' (.slice a1 0 d1) [] ∧ New KI W.heap.size w' (.slice a2 0 d2) [] ∧ Below W.heap.size W w') := fun W v' hv => (add_ok W v' S [] m hv hf).mono fun e w' ⟨v1, v2, h1, h2, h3, h4⟩ => by
        rw [he] at h1 h2 h3
        obtain ⟨a1, d1, rfl, h5⟩ := h2.form
        obtain ⟨a2, d2, rfl⟩ := h3.1.form
        exact ⟨a1, d1, a2, d2, h1, h5, h3, h4⟩
      have HADD : Hid (∀ W (v' : Value), Below wr.heap.size wr W → Calls Try.prog 12 #[.agg #[.int .i64 S, .slice a 0 c], .int .i64 m] W fun e w' => ∃ a1 d1 a2 d2, e = .returned (.tuple #[.agg #[.int .i64 (S + m), .slice a1 0 d1], .slice a2 0 d2, .bool false, .agg #[.int .i64 0, .int .i64 0]]) ∧ New KI W.heap.size w' (.slice a1 0 d1) [] ∧ New KI W.heap.size w' (.slice a2 0 d2) [] ∧ Below W.heap.size W w') := fun W v' hW => unhide HAD W _ ⟨_, rfl, (unhide HIj).1.below hW⟩
      have HK0 := hide k9
      clear hf he
      go_upto_region 12 with fail
      clear k9
      go_cut [8, 9, 10, 11] (fun s8 s9 s10 s11 W => ∃ (Y1 Y2 : Nat) (a1 : Option Addr) (d1 : Nat) (a2 : Option Addr) (d2 : Nat), s8 = .pointer (some ⟨Y1, 0, none⟩) ∧ s9 = .slice a2 0 d2 ∧ s10 = .bool false ∧ s11 = .pointer (some ⟨Y2, 0, none⟩) ∧ Hid (Got2 wr W Y1 Y2 (.int .i64 (S + m)) (.slice a1 0 d1) (.slice a2 0 d2) [] []))
      case first =>
        have HSS : Hid (∀ W, Below wr.heap.size wr W → (W.cell? ⟨T, 0, none⟩ = some (.int .i64 S) ∧ W.cell? ⟨T, 1, none⟩ = some (.slice a 0 c)) ∧ W.cell? ⟨b0, o0 + j, none⟩ = some (.int .i64 m) ∧ Below wr.heap.size wr W) := fun W hW => by
          obtain ⟨k0, k1, -⟩ := block2 (keep_below (unhide HPj) hW)
          exact ⟨⟨k0, k1⟩, (hW.cell (p := ⟨b0, o0 + j, none⟩) (unhide HB0)).trans (unhide HK0), hW⟩
        obtain ⟨⟨k0, k1⟩, k2, -⟩ := unhide HSS _ (Below.refl _ _)
        go_wp2_with fail
        go_region_held3 (fun W => (W.cell? ⟨T, 0, none⟩ = some (.int .i64 S) ∧ W.cell? ⟨T, 1, none⟩ = some (.slice a 0 c)) ∧ W.cell? ⟨b0, o0 + j, none⟩ = some (.int .i64 m) ∧ Below wr.heap.size wr W)
          (first | with_reducible exact unhide HSS _ (Below.refl _ _).drew | with_reducible exact unhide HSS _ ((Below.refl wr.heap.size wr).alloc (Nat.le_refl _) _).drew | with_reducible exact unhide HSS _ (((Below.refl wr.heap.size wr).alloc (Nat.le_refl _) _).alloc (by simp) _).drew | with_reducible exact unhide HSS _ (unhide HX3) | with_reducible exact unhide HSS _ ((unhide HX3).alloc (unhide HX3).size _) | with_reducible exact unhide HSS _ (((unhide HX3).alloc (unhide HX3).size _).alloc ((unhide HX3).alloc (unhide HX3).size _).size _) | (refine unhide HSS _ ?_; (repeat' (first | exact unhide HX3 | exact (Below.refl _ _).drew | refine Below.alloc ?_ ?_ _ | refine Below.setCell ?_ ?_ _ | exact Nat.le_refl _ | exact Nat.le_succ _ | exact (unhide HX3).size | (have hq := (unhide HX3).size; simp [World.setCell]; omega)))))
          (first | (go_at_call 12; refine (unhide HADD _ (.bool false) (by go_split_ands; assumption)).mono ?_; rintro e w3 ⟨a1, d1, a2, d2, rfl, hn3, hl3, hb3⟩; have HX3 : Hid (Below wr.heap.size wr w3) := Below.next (by go_split_ands; assumption) hb3 (Nat.le_refl _); have HN3 := hide (hn3.base (show wr.heap.size ≤ _ from (show Below wr.heap.size wr _ by go_split_ands; assumption).size)); have HL3 := hide (hl3.base (show wr.heap.size ≤ _ from (show Below wr.heap.size wr _ by go_split_ands; assumption).size)); (try (have HZa : Hid (w3.heap[wr.heap.size]? = some (.cells #[.int .i64 0, .slice none 0 0] 24)) := keep_below (w := (wr.alloc (.cells #[.int .i64 0, .slice none 0 0] 24)).drew) (new_block wr (.cells #[.int .i64 0, .slice none 0 0] 24)) hb3; have hza := block2 (unhide HZa); have za0 := hza.1; have za1 := hza.2.1; have zaf0 := hza.2.2.1; have zaf1 := hza.2.2.2.1; have zal := hza.2.2.2.2; have HN4 : Hid (New KI (wr.heap.size + 1) w3 _ _) := hn3.base (Nat.le_of_eq (World.size_alloc wr _).symm); have HL4 : Hid (New KI (wr.heap.size + 1) w3 _ _) := hl3.base (Nat.le_of_eq (World.size_alloc wr _).symm))); (try (have HZb : Hid (w3.heap[wr.heap.size]? = some (.cells #[.int .i64 0, .int .i64 0] 29)) := keep_below (w := (wr.alloc (.cells #[.int .i64 0, .int .i64 0] 29)).drew) (new_block wr (.cells #[.int .i64 0, .int .i64 0] 29)) hb3; have hzb := block2 (unhide HZb); have zb0 := hzb.1; have zb1 := hzb.2.1; have zbf0 := hzb.2.2.1; have zbf1 := hzb.2.2.2.1; have zbl := hzb.2.2.2.2; have HN4 : Hid (New KI (wr.heap.size + 1) w3 _ _) := hn3.base (Nat.le_of_eq (World.size_alloc wr _).symm); have HL4 : Hid (New KI (wr.heap.size + 1) w3 _ _) := hl3.base (Nat.le_of_eq (World.size_alloc wr _).symm))); (try (have HZa : Hid (w3.heap[wr.heap.size]? = some (.cells #[.int .i64 0, .slice none 0 0] 24)) := keep_below (w := ((wr.alloc (.cells #[.int .i64 0, .slice none 0 0] 24)).alloc (.cells #[.int .i64 0, .int .i64 0] 29)).drew) (keep_alloc (new_block wr (.cells #[.int .i64 0, .slice none 0 0] 24)) (.cells #[.int .i64 0, .int .i64 0] 29)) hb3; have HZd : Hid (w3.heap[wr.heap.size + 1]? = some (.cells #[.int .i64 0, .int .i64 0] 29)) := keep_below (w := ((wr.alloc (.cells #[.int .i64 0, .slice none 0 0] 24)).alloc (.cells #[.int .i64 0, .int .i64 0] 29)).drew) (new_block2 wr (.cells #[.int .i64 0, .slice none 0 0] 24) (.cells #[.int .i64 0, .int .i64 0] 29)) hb3; have hza := block2 (unhide HZa); have za0 := hza.1; have za1 := hza.2.1; have zaf0 := hza.2.2.1; have zaf1 := hza.2.2.2.1; have zal := hza.2.2.2.2; have hzd := block2 (unhide HZd); have zd0 := hzd.1; have zd1 := hzd.2.1; have zdf0 := hzd.2.2.1; have zdf1 := hzd.2.2.2.1; have zdl := hzd.2.2.2.2; have HN5 : Hid (New KI (wr.heap.size + 1 + 1) w3 _ _) := hn3.base (two_le wr _ _); have HL5 : Hid (New KI (wr.heap.size + 1 + 1) w3 _ _) := hl3.base (two_le wr _ _))); (try (have HZb : Hid (w3.heap[wr.heap.size]? = some (.cells #[.int .i64 0, .int .i64 0] 29)) := keep_below (w := ((wr.alloc (.cells #[.int .i64 0, .int .i64 0] 29)).alloc (.cells #[.int .i64 0, .slice none 0 0] 24)).drew) (keep_alloc (new_block wr (.cells #[.int .i64 0, .int .i64 0] 29)) (.cells #[.int .i64 0, .slice none 0 0] 24)) hb3; have HZc : Hid (w3.heap[wr.heap.size + 1]? = some (.cells #[.int .i64 0, .slice none 0 0] 24)) := keep_below (w := ((wr.alloc (.cells #[.int .i64 0, .int .i64 0] 29)).alloc (.cells #[.int .i64 0, .slice none 0 0] 24)).drew) (new_block2 wr (.cells #[.int .i64 0, .int .i64 0] 29) (.cells #[.int .i64 0, .slice none 0 0] 24)) hb3; have hzb := block2 (unhide HZb); have zb0 := hzb.1; have zb1 := hzb.2.1; have zbf0 := hzb.2.2.1; have zbf1 := hzb.2.2.2.1; have zbl := hzb.2.2.2.2; have hzc := block2 (unhide HZc); have zc0 := hzc.1; have zc1 := hzc.2.1; have zcf0 := hzc.2.2.1; have zcf1 := hzc.2.2.2.1; have zcl := hzc.2.2.2.2; have HN5 : Hid (New KI (wr.heap.size + 1 + 1) w3 _ _) := hn3.base (two_le wr _ _); have HL5 : Hid (New KI (wr.heap.size + 1 + 1) w3 _ _) := hl3.base (two_le wr _ _))); clear hb3 hn3 hl3))
        all_goals
          go_wp2_with fail
          go_meet
          case rel =>
            first
              | exact ⟨_, _, a1, d1, a2, d2, rfl, rfl, rfl, rfl, got_1 (unhide HX3) (unhide HN3) (unhide HL3)⟩
              | exact ⟨_, _, a1, d1, a2, d2, rfl, rfl, rfl, rfl, got_2 (unhide HX3) (unhide HN3) (unhide HL3)⟩
              | exact ⟨_, _, a1, d1, a2, d2, rfl, rfl, rfl, rfl, got_3 (unhide HX3) (unhide HZa) (unhide HN4) (unhide HL4)⟩
              | exact ⟨_, _, a1, d1, a2, d2, rfl, rfl, rfl, rfl, got_4 (unhide HX3) (unhide HZa) (unhide HZd) (unhide HN5) (unhide HL5)⟩
              | exact ⟨_, _, a1, d1, a2, d2, rfl, rfl, rfl, rfl, got_5 (unhide HX3) (unhide HZb) (unhide HN4) (unhide HL4)⟩
              | exact ⟨_, _, a1, d1, a2, d2, rfl, rfl, rfl, rfl, got_6 (unhide HX3) (unhide HZb) (unhide HZc) (unhide HN5) (unhide HL5)⟩
      case rest =>
        obtain ⟨Y1, Y2, a1, d1, a2, d2, rfl, rfl, rfl, rfl, HGOT⟩ := hcut
        have hTw : T < wr.heap.size := size_of (unhide HPj)
        have hbC := (unhide HGOT).bel
        have hTC : T < wr.heap.size := size_of (unhide HPj)
        have hY1 := (unhide HGOT).b1
        have hY2 := (unhide HGOT).b2
        have hY3 := (unhide HGOT).ne
        have HNC := hide ((unhide HGOT).n1.base (Nat.succ_le_of_lt hTC))
        have HLC := hide (unhide HGOT).n2
        have HY1 := hide (unhide HGOT).h
        have HY2 := hide (unhide HGOT).f
        (have HX_a1 := hide (Below.next (unhide HXj) hbC (by first | exact Nat.le_refl _ | (have := unhide HBA; omega))); have Kp_a1 := hide (keep_below (unhide HPj) hbC); clear HXj HPj)
        have hT1 : T < Y1 := by omega
        have hT2 : T < Y2 := by omega
        clear hbC
        obtain ⟨f0, f1, ff0, ff1, fl⟩ := block2 (unhide HY2)
        go_upto_region 15 with fail
        clear f0 f1 ff0 ff1 fl
        obtain ⟨p0, p1, pf0, pf1, pl⟩ := block2 (unhide Kp_a1)
        obtain ⟨m0, m1, mf0, mf1, ml⟩ := block2 (unhide HY1)
        go_upto_region 16 with fail
        clear p0 p1 pf0 pf1 pl m0 m1 mf0 mf1 ml
        have NN_a2 := hide ((unhide HNC).keep ki (fun k hk _ => put2_keep (y0 := .int .i64 (S + m)) (y1 := .slice a1 0 d1) (show k ≠ T by omega)))
        clear HNC
        have HX_a2 := hide (put2_below (y0 := .int .i64 (S + m)) (y1 := .slice a1 0 d1) (unhide HX_a1) (show w.heap.size ≤ T by first | omega | (have := unhide HBA; omega)))
        have Kp_a2 := hide (put2_new (y0 := .int .i64 (S + m)) (y1 := .slice a1 0 d1) (unhide Kp_a1))
        have Km_a2 := hide ((put2_keep (y0 := .int .i64 (S + m)) (y1 := .slice a1 0 d1) (show Y1 ≠ T by omega)).trans (unhide HY1))
        have Kf_a2 := hide ((put2_keep (y0 := .int .i64 (S + m)) (y1 := .slice a1 0 d1) (show Y2 ≠ T by omega)).trans (unhide HY2))
        obtain ⟨W6, eW6⟩ : ∃ X, put2 wc (T) (.int .i64 (S + m)) (.slice a1 0 d1) = X := ⟨_, rfl⟩
        rw [eW6] at HX_a2 Kp_a2 Km_a2 Kf_a2 NN_a2
        have eW62 : ((wc).setCell ⟨T, 0, none⟩ (.int .i64 (S + m))).setCell ⟨T, 1, none⟩ (.slice a1 0 d1) = W6 := eW6
        rw [eW62]
        clear eW6 eW62 HX_a1 Kp_a1 HY1 HY2
        have k9 := ((unhide HLI).below (unhide HX_a2) hb0).ints (j := j) (by rw [unhide HN]; exact hlt)
        rw [unhide HEM] at k9
        have hwS : IntKind.i64.wrap (S + m) = S + m := wrapi (by omega) (by omega)
        have HFN : Hid (Fine zs (j + 1)) := fun i hi => by
          by_cases e : i = j
          · subst e; rw [unhide HEM]; omega
          · exact unhide HF i (by omega)
        go_wp2_with fail
        go_roundw
        case rel => exact ⟨j + 1, a1, d1, by omega, by rw [unhide HSC], by go_num, HFN, by rw [unhide HSC]; exact Kp_a2, NN_a2, HX_a2⟩
        case measure => simp [intOf]; omega
    · have hjn : j = n := by omega
      subst hjn
      have hcx : ¬ (j : Int) < (j : Int) := by omega
      obtain ⟨hs0, hs1⟩ := (unhide HF).bound (by rw [unhide HN]; omega)
      obtain ⟨S, eS⟩ : ∃ S, sumTo zs j = S := ⟨_, rfl⟩
      rw [eS] at HPj hs0 hs1 ⊢
      have HES := hide eS
      clear eS
      have e1 : LL S 1 = [] := LL_one S
      have HE1 := hide e1
      clear e1
      have htk : tk ≤ 50 := by omega
      go_wp2_with fail
      go_loopw [12, 13] (fun ln i W => ∃ (q : Nat) (a : Option Addr) (c : Nat) (a5 : Option Addr) (c5 : Nat), 1 ≤ q ∧ q ≤ tk + 1 ∧ i = .int .i64 q ∧ ln = .slice a5 (LL S q).length c5 ∧ Hid (W.heap[T]? = some (.cells #[.int .i64 S, .slice a (LL S q).length c] 24)) ∧ Hid (New KI (T + 1) W (.slice a (LL S q).length c) (LL S q)) ∧ Hid (Own KI w.heap.size W (.slice a5 (LL S q).length c5) (LL S q)) ∧ Hid (Below w.heap.size w W)) (fun _ i _ => tk + 1 - (intOf i).toNat)
      case atStart => exact ⟨1, a, c, none, 0, Nat.le_refl _, by omega, rfl, by rw [unhide HE1]; rfl, by rw [unhide HE1]; exact HPj, by rw [unhide HE1]; exact HIj, by rw [unhide HE1]; exact own_nil _ _, HXj⟩
      case round =>
        obtain ⟨q, a, c, a5, c5, hq1, hq2, rfl, rfl, HPq, HWq, HOq, HXq⟩ := hrel
        clear HPj HIj HXj HE1
        by_cases hql : q ≤ tk
        · have hql2 : (q : Int) ≤ (tk : Int) := by omega
          obtain ⟨hf, he⟩ := group_await (S := S) (q := q) (by omega) (by omega) hq1 (by omega)
          have HAW : Hid (∀ W v', IsG KI W v' S (LL S q) → Calls Try.prog 13 #[v', .int .i64 q] W fun e w' => ∃ a1 d1, e = .returned (.tuple #[.agg #[.int .i64 S, .slice a1 (LL S (q + 1)).length d1], .bool (decide (S = 0)), .agg #[.int .i64 0, .int .i64 0]]) ∧ New KI W.heap.size w' (.slice a1 (LL S (q + 1)).length d1) (LL S (q + 1)) ∧ Below W.heap.size W w') := fun W v' hv => (await_ok W v' S (LL S q) q hv hf).mono fun e w' ⟨v1, h1, h2, h3⟩ => by
            rw [he] at h1 h2
            obtain ⟨a1, d1, rfl, h4⟩ := h2.form
            exact ⟨a1, d1, h1, h4, h3⟩
          clear hf he
          have HTB : Hid (T < wr.heap.size) := size_of (unhide HPq)
          by_cases hS0 : S = 0
          · have eb : decide (S = 0) = true := decide_eq_true hS0
            have eL : LL S (q + 1) = LL S q := by unfold LL; rw [if_pos hS0, if_pos hS0]
            rw [eb, eL] at HAW
            have xS : (S == 0) = true := by simpa using hS0
            have HEL := hide eL
            clear eb eL hS0
            generalize LL S q = P at *
            obtain ⟨p0, p1, pf0, pf1, pl⟩ := block2 (unhide HPq)
            go_upto_region 22 with (go_at_call 13; refine (unhide HAW _ _ ⟨_, rfl, (unhide HWq).1⟩).mono ?_; rintro e w2 ⟨a1, d1, rfl, hn1', hb2⟩; have HN1 := hide (hn1'.base (Nat.succ_le_of_lt (unhide HTB))); have HX_y1 := hide (Below.next (unhide HXq) hb2 (by first | exact Nat.le_refl _ | (have := unhide HBA; omega))); have Kp_y1 := hide (keep_below (unhide HPq) hb2); have Ol_y1 := hide ((unhide HOq).below hb2); clear HXq HPq HOq; clear hb2 hn1' HWq p0 p1 pf0 pf1 pl)
            obtain ⟨W3, eW3, hBW3, k0_y2, k1_y2⟩ := two_new w2 (.cells #[.int .i64 S, .slice a1 P.length d1] 24) (.cells #[.int .i64 0, .int .i64 0] 29)
            rw [eW3]
            clear eW3
            have hlp_m : T < w2.heap.size := size_of (unhide Kp_y1)
            (have HX_y2 := hide (Below.next (unhide HX_y1) hBW3 (by first | exact Nat.le_refl _ | (have := unhide HBA; omega))); have Kp_y2 := hide (keep_below (unhide Kp_y1) hBW3); have Ol_y2 := hide ((unhide Ol_y1).below hBW3); have FN_y2 := hide ((unhide HN1).below hBW3); clear HX_y1 Kp_y1 Ol_y1 HN1)
            obtain ⟨M, eM⟩ : ∃ X, w2.heap.size = X := ⟨_, rfl⟩
            rw [eM] at k0_y2 k1_y2 hlp_m ⊢
            have Km_y2 := hide k0_y2
            have Kf_y2 := hide k1_y2
            clear eM hBW3 k0_y2 k1_y2
            have xb : (true != true) = false := rfl
            obtain ⟨p0, p1, pf0, pf1, pl⟩ := block2 (unhide Kp_y2)
            obtain ⟨m0, m1, mf0, mf1, ml⟩ := block2 (unhide Km_y2)
            obtain ⟨f0, f1, ff0, ff1, fl⟩ := block2 (unhide Kf_y2)
            go_wp2_with fail
            clear p0 p1 pf0 pf1 pl m0 m1 mf0 mf1 ml f0 f1 ff0 ff1 fl
            have NN_y3 := hide ((unhide FN_y2).keep ki (fun k hk _ => put2_keep (y0 := .int .i64 S) (y1 := .slice a1 P.length d1) (show k ≠ T by omega)))
            clear FN_y2
            have HX_y3 := hide (put2_below (y0 := .int .i64 S) (y1 := .slice a1 P.length d1) (unhide HX_y2) (show w.heap.size ≤ T by first | omega | (have := unhide HBA; omega)))
            have Kp_y3 := hide (put2_new (y0 := .int .i64 S) (y1 := .slice a1 P.length d1) (unhide Kp_y2))
            have Km_y3 := hide ((put2_keep (y0 := .int .i64 S) (y1 := .slice a1 P.length d1) (show M ≠ T by omega)).trans (unhide Km_y2))
            have Kf_y3 := hide ((put2_keep (y0 := .int .i64 S) (y1 := .slice a1 P.length d1) (show M + 1 ≠ T by omega)).trans (unhide Kf_y2))
            have Ol_y3 := hide ((unhide Ol_y2).keep (fun k hk => put2_keep (y0 := .int .i64 S) (y1 := .slice a1 P.length d1) (Own.ne (unhide Ol_y2) (unhide Kp_y2) (by decide) k hk)))
            obtain ⟨W4, eW4⟩ : ∃ X, put2 W3 (T) (.int .i64 S) (.slice a1 P.length d1) = X := ⟨_, rfl⟩
            rw [eW4] at HX_y3 Kp_y3 Km_y3 Kf_y3 Ol_y3 NN_y3
            have eW42 : ((W3).setCell ⟨T, 0, none⟩ (.int .i64 S)).setCell ⟨T, 1, none⟩ (.slice a1 P.length d1) = W4 := eW4
            rw [eW42]
            clear eW4 eW42 HX_y2 Kp_y2 Km_y2 Kf_y2 Ol_y2
            go_roundw
            case rel => exact ⟨q + 1, a1, d1, a5, c5, by omega, by omega, by go_num, by rw [unhide HEL], by rw [unhide HEL]; exact Kp_y3, by rw [unhide HEL]; exact NN_y3, by rw [unhide HEL]; exact Ol_y3, HX_y3⟩
            case measure => simp [intOf]; omega
          · have eb : decide (S = 0) = false := decide_eq_false hS0
            have eL : LL S (q + 1) = LL S q ++ [(q : Int)] := by unfold LL; rw [if_neg hS0, if_neg hS0]; exact upTo_snoc hq1
            rw [eb, eL] at HAW
            have xS : (S == 0) = false := by simpa using hS0
            have HEL := hide eL
            have hPl : (LL S q).length ≤ 60 := by unfold LL; rw [if_neg hS0, upTo_length]; omega
            clear eb eL hS0
            obtain ⟨P, eP⟩ : ∃ P, LL S q = P := ⟨_, rfl⟩
            rw [eP] at HAW HPq HWq HOq HEL hPl ⊢
            obtain ⟨N, eN⟩ : ∃ N, P.length = N := ⟨_, rfl⟩
            have eN1 : (P ++ [(q : Int)]).length = N + 1 := by simp [eN]
            simp only [eN1] at HAW
            rw [eN] at HPq HWq HOq hPl ⊢
            have HNP := hide eN
            clear eP eN eN1
            obtain ⟨p0, p1, pf0, pf1, pl⟩ := block2 (unhide HPq)
            have HWq2 : Hid (New KI (T + 1) wr (.slice a N c) P) := HWq
            clear HWq
            have HWq := HWq2
            clear HWq2
            have HRW : Hid (∀ k, (Value.slice a5 N c5).ownBlock = some k → k < wr.heap.size) := fun k hk => ((unhide HOq).lt k hk).2
            go_upto_region 22 with (go_at_call 13; refine (unhide HAW _ _ ⟨_, rfl, (unhide HWq).1⟩).mono ?_; rintro e w2 ⟨a1, d1, rfl, hn1', hb2⟩; have HN1 := hide (hn1'); have HX_n1 := hide (Below.next (unhide HXq) hb2 (by first | exact Nat.le_refl _ | (have := unhide HBA; omega))); have Kp_n1 := hide (keep_below (unhide HPq) hb2); have Ol_n1 := hide ((unhide HOq).below hb2); clear HXq HPq HOq; clear hb2 hn1' HWq p0 p1 pf0 pf1 pl)
            obtain ⟨W3, eW3, hBW3, k0_n2, k1_n2⟩ := two_new w2 (.cells #[.int .i64 S, .slice a1 (N + 1) d1] 24) (.cells #[.int .i64 0, .int .i64 0] 29)
            rw [eW3]
            clear eW3
            have hlp_m : T < w2.heap.size := size_of (unhide Kp_n1)
            (have HX_n2 := hide (Below.next (unhide HX_n1) hBW3 (by first | exact Nat.le_refl _ | (have := unhide HBA; omega))); have Kp_n2 := hide (keep_below (unhide Kp_n1) hBW3); have Ol_n2 := hide ((unhide Ol_n1).below hBW3); have FN_n2 := hide ((unhide HN1).below hBW3); clear HX_n1 Kp_n1 Ol_n1 HN1)
            obtain ⟨M, eM⟩ : ∃ X, w2.heap.size = X := ⟨_, rfl⟩
            rw [eM] at k0_n2 k1_n2 hlp_m ⊢
            have Km_n2 := hide k0_n2
            have Kf_n2 := hide k1_n2
            clear eM hBW3 k0_n2 k1_n2
            have xb : (false != false) = false := rfl
            obtain ⟨f0, f1, ff0, ff1, fl⟩ := block2 (unhide Kf_n2)
            go_upto_region 25 with fail
            clear f0 f1 ff0 ff1 fl
            have HI1 := hide (isl_one ki W3 (q : Int))
            have HO5 := hide ((unhide Ol_n2).below ((Below.refl _ _).alloc (Nat.le_refl _) (.cells #[.int .i64 (q : Int)] 3)))
            go_upto_region 26 with (at_builtin; refine wpList_append ki rfl (.tmp 110) (.tmp 112) rfl w.heap.size _ P rfl (unhide HO5) _ [(q : Int)] rfl (unhide HI1) (N + 1) (by simp [unhide HNP]) (by simp [KI]; omega) ((unhide HX_n2).alloc (unhide HX_n2).size (.cells #[.int .i64 (q : Int)] 3)).size ?_; intro a6 c6 w6 ho6 hg6; have HO6 := hide ho6; have HX6 := hide (((unhide HX_n2).alloc (unhide HX_n2).size (.cells #[.int .i64 (q : Int)] 3)).grown hg6 ((unhide HX_n2).alloc (unhide HX_n2).size (.cells #[.int .i64 (q : Int)] 3)).size (fun k hk => ((unhide HO5).lt k hk).1)); have HN6 := hide (new_grown (unhide FN_n2) hg6 (unhide HRW)); have Kp_zz := hide (keep_grown (keep_alloc (unhide Kp_n2) (.cells #[.int .i64 (q : Int)] 3)) hg6 (fun j hj => Own.ne (unhide HO5) (keep_alloc (unhide Kp_n2) (.cells #[.int .i64 (q : Int)] 3)) (by decide) j hj)); have Km_zz := hide (keep_grown (keep_alloc (unhide Km_n2) (.cells #[.int .i64 (q : Int)] 3)) hg6 (fun j hj => Own.ne (unhide HO5) (keep_alloc (unhide Km_n2) (.cells #[.int .i64 (q : Int)] 3)) (by decide) j hj)); have Kf_zz := hide (keep_grown (keep_alloc (unhide Kf_n2) (.cells #[.int .i64 (q : Int)] 3)) hg6 (fun j hj => Own.ne (unhide HO5) (keep_alloc (unhide Kf_n2) (.cells #[.int .i64 (q : Int)] 3)) (by decide) j hj)); clear ho6 hg6)
            clear HI1 HO5 Ol_n2 HX_n2 FN_n2 Kp_n2 Km_n2 Kf_n2
            have HN7 := hide ((unhide HN6).base (Nat.succ_le_of_lt (unhide HTB)))
            clear HN6
            obtain ⟨p0, p1, pf0, pf1, pl⟩ := block2 (unhide Kp_zz)
            obtain ⟨m0, m1, mf0, mf1, ml⟩ := block2 (unhide Km_zz)
            go_wp2_with fail
            clear p0 p1 pf0 pf1 pl m0 m1 mf0 mf1 ml
            have NN_n3 := hide ((unhide HN7).keep ki (fun k hk _ => put2_keep (y0 := .int .i64 S) (y1 := .slice a1 (N + 1) d1) (show k ≠ T by omega)))
            clear HN7
            have HX_n3 := hide (put2_below (y0 := .int .i64 S) (y1 := .slice a1 (N + 1) d1) (unhide HX6) (show w.heap.size ≤ T by first | omega | (have := unhide HBA; omega)))
            have Kp_n3 := hide (put2_new (y0 := .int .i64 S) (y1 := .slice a1 (N + 1) d1) (unhide Kp_zz))
            have Km_n3 := hide ((put2_keep (y0 := .int .i64 S) (y1 := .slice a1 (N + 1) d1) (show M ≠ T by omega)).trans (unhide Km_zz))
            have Kf_n3 := hide ((put2_keep (y0 := .int .i64 S) (y1 := .slice a1 (N + 1) d1) (show M + 1 ≠ T by omega)).trans (unhide Kf_zz))
            have Ol_n3 := hide ((unhide HO6).keep (fun k hk => put2_keep (y0 := .int .i64 S) (y1 := .slice a1 (N + 1) d1) (Own.ne (unhide HO6) (unhide Kp_zz) (by decide) k hk)))
            obtain ⟨W7, eW7⟩ : ∃ X, put2 w6 (T) (.int .i64 S) (.slice a1 (N + 1) d1) = X := ⟨_, rfl⟩
            rw [eW7] at HX_n3 Kp_n3 Km_n3 Kf_n3 Ol_n3 NN_n3
            have eW72 : ((w6).setCell ⟨T, 0, none⟩ (.int .i64 S)).setCell ⟨T, 1, none⟩ (.slice a1 (N + 1) d1) = W7 := eW7
            rw [eW72]
            clear eW7 eW72 HX6 Kp_zz Km_zz Kf_zz HO6
            have HE5 : Hid ((LL S (q + 1)).length = N + 1) := hide (by rw [unhide HEL]; simp [unhide HNP])
            go_roundw
            case rel => exact ⟨q + 1, a1, d1, a6, c6, by omega, by omega, by go_num, by rw [unhide HE5], by rw [unhide HE5]; exact Kp_n3, by rw [unhide HE5, unhide HEL]; exact NN_n3, by rw [unhide HE5, unhide HEL]; exact Ol_n3, HX_n3⟩
            case measure => simp [intOf]; omega
        · have hcx2 : ¬ (q : Int) ≤ (tk : Int) := by omega
          have hqe : q = tk + 1 := by omega
          subst hqe
          have HG0 : Hid (LL S (tk + 1) = gL zs j S (tk + 1) 0) := gL_zero (by have := unhide HES; exact this)
          obtain ⟨L, eL⟩ : ∃ L, LL S (tk + 1) = L := ⟨_, rfl⟩
          rw [eL] at HPq HWq HOq HG0 ⊢
          have HEL := hide eL
          have hL60 : L.length ≤ 60 := by rw [← eL]; unfold LL; split <;> simp [upTo_length]; omega
          obtain ⟨NL, eNL⟩ : ∃ N, L.length = N := ⟨_, rfl⟩
          rw [eNL] at hL60 HOq ⊢
          have HNL := hide eNL
          clear eL eNL
          go_wp2_with fail
          go_loopw [6, 17] (fun g i W => ∃ (k : Nat) (a : Option Addr) (c : Nat), k ≤ j ∧ g = .int .i64 (S - sumTo zs k) ∧ i = .int .i64 k ∧ Hid (W.heap[T]? = some (.cells #[.int .i64 (S - sumTo zs k), .slice a (gL zs j S (tk + 1) k).length c] 24)) ∧ Hid (New KI (T + 1) W (.slice a (gL zs j S (tk + 1) k).length c) (gL zs j S (tk + 1) k)) ∧ Hid (Own KI w.heap.size W (.slice a5 NL c5) L) ∧ Hid (Below w.heap.size w W)) (fun _ i _ => j - (intOf i).toNat)
          case atStart => exact ⟨0, a, c, Nat.zero_le _, by simp [sumTo], rfl, by rw [← unhide HG0, show S - sumTo zs 0 = S by simp [sumTo]]; exact HPq, by rw [← unhide HG0]; exact HWq, HOq, HXq⟩
          case round =>
            obtain ⟨k, a, c, hk, rfl, rfl, HPk, HWk, HOk, HXk⟩ := hrel
            clear HPq HWq HOq HXq HG0
            by_cases hlt : k < j
            · obtain ⟨b0, o0, rfl, hb0, l0⟩ := (unhide HL).opens ki (unhide HN) (by omega)
              have k9 := (l0.below (unhide HXk) hb0).ints (j := k) (by rw [unhide HN]; exact hlt)
              have hsc := sumTo_succ (zs := zs) (j := k) (by rw [unhide HN]; exact hlt)
              have hrs := sumTo_rest (unhide HF) (Nat.le_of_lt hlt) (by rw [unhide HN]; exact Nat.le_refl _)
              have hrs2 := sumTo_rest (unhide HF) (show k + 1 ≤ j by omega) (by rw [unhide HN]; exact Nat.le_refl _)
              have hmb := unhide HF k hlt
              obtain ⟨hk0, hk1⟩ := Fine.bound (zs := zs) (j := k) (fun i hi => unhide HF i (by omega)) (by rw [unhide HN]; omega)
              rw [unhide HES] at hrs hrs2
              obtain ⟨m, em⟩ : ∃ m, zs.getD k 0 = m := ⟨_, rfl⟩
              rw [em] at k9 hsc hmb
              obtain ⟨R, eR⟩ : ∃ R, S - sumTo zs k = R := ⟨_, rfl⟩
              have eR1 : S - sumTo zs (k + 1) = R - m := by rw [hsc]; omega
              rw [eR1] at hrs2
              rw [eR] at hrs
              have hR1 : 1 ≤ R := by omega
              have hR2 : R ≤ 200000 := by omega
              have eg : gL zs j S (tk + 1) k = L := by unfold gL; rw [eR, if_neg (by omega)]; exact unhide HEL
              rw [eR, eg] at HPk
              rw [eg] at HWk
              rw [eR]
              have eg1 : gL zs j S (tk + 1) (k + 1) = if R - m = 0 then [] else L := by unfold gL; rw [eR1, unhide HEL]
              have HEM := hide em; have HR1 := hide eR1; have HEG := hide eg1
              have hlf : lineF L = (0, 0) := by rw [← unhide HEL]; exact (LL_line (by omega)).1
              rw [unhide HNL] at HPk HWk
              have HB0 : Hid (b0 < wr.heap.size) := Nat.lt_of_lt_of_le hb0 (unhide HXk).size
              have HLI := hide l0
              have i0 : (0 : Int) ≤ (k : Int) := by omega
              have i1 : (k : Int) < (j : Int) := by omega
              have hwm : IntKind.i64.wrap (-m) = -m := wrapi (by omega) (by omega)
              have hwR : IntKind.i64.wrap (R - m) = R - m := wrapi (by omega) (by omega)
              have HK0 := hide k9
              obtain ⟨hf, hez, hep⟩ := group_take (R := R) (m := m) hlf hR1 hR2 hmb.1 hmb.2 (by omega)
              have hrm : 0 ≤ R - m := by omega
              clear em eR eR1 hsc hrs hrs2 eg eg1 hlf l0 hk0 hk1 k9
              by_cases hz : R - m = 0
              · have HADD : Hid (∀ W (v' : Value), Below wr.heap.size wr W → Calls Try.prog 12 #[.agg #[.int .i64 R, .slice a NL c], .int .i64 (-m)] W fun e w' => ∃ a1 d1 a2 d2, e = .returned (.tuple #[.agg #[.int .i64 0, .slice a1 0 d1], .slice a2 NL d2, .bool false, .agg #[.int .i64 0, .int .i64 0]]) ∧ New KI W.heap.size w' (.slice a1 0 d1) [] ∧ New KI W.heap.size w' (.slice a2 NL d2) L ∧ Below W.heap.size W w') := fun W v' hW => (add_ok W _ R L (-m) ⟨_, rfl, (unhide HWk).1.below hW⟩ hf).mono fun e w' ⟨v1, v2, h1, h2, h3, h4⟩ => by
                  rw [hez hz] at h1 h2 h3
                  obtain ⟨a1, d1, rfl, h5⟩ := h2.form
                  obtain ⟨a2, d2, rfl⟩ := h3.1.form
                  have h3b := h3
                  simp only [unhide HNL, List.length_nil] at h1 h5 h3b
                  exact ⟨a1, d1, a2, d2, h1, h5, h3b, h4⟩
                have xz : ((R - m) == 0) = true := by simpa using hz
                have xz2 : ¬ 0 < R - m := by omega
                have HGE : Hid (gL zs j S (tk + 1) (k + 1) = []) := hide (by rw [unhide HEG, if_pos hz])
                have HRZ : Hid (R - m = 0) := hz
                clear hf hez hep hz hrm HEG
                go_upto_region 30 with fail
                go_cut [18, 19, 20, 21] (fun s8 s9 s10 s11 W => ∃ (Y1 Y2 : Nat) (a1 : Option Addr) (d1 : Nat) (a2 : Option Addr) (d2 : Nat), s8 = .pointer (some ⟨Y1, 0, none⟩) ∧ s9 = .slice a2 NL d2 ∧ s10 = .bool false ∧ s11 = .pointer (some ⟨Y2, 0, none⟩) ∧ Hid (Got2 wr W Y1 Y2 (.int .i64 0) (.slice a1 0 d1) (.slice a2 NL d2) [] L))
                case first =>
                  have HSS : Hid (∀ W, Below wr.heap.size wr W → (W.cell? ⟨T, 0, none⟩ = some (.int .i64 R) ∧ W.cell? ⟨T, 1, none⟩ = some (.slice a NL c)) ∧ W.cell? ⟨b0, o0 + k, none⟩ = some (.int .i64 m) ∧ Below wr.heap.size wr W) := fun W hW => by
                    obtain ⟨k0, k1, -⟩ := block2 (keep_below (unhide HPk) hW)
                    exact ⟨⟨k0, k1⟩, (hW.cell (p := ⟨b0, o0 + k, none⟩) (unhide HB0)).trans (unhide HK0), hW⟩
                  obtain ⟨⟨k0, k1⟩, k2, -⟩ := unhide HSS _ (Below.refl _ _)
                  go_wp2_with fail
                  go_region_held3 (fun W => (W.cell? ⟨T, 0, none⟩ = some (.int .i64 R) ∧ W.cell? ⟨T, 1, none⟩ = some (.slice a NL c)) ∧ W.cell? ⟨b0, o0 + k, none⟩ = some (.int .i64 m) ∧ Below wr.heap.size wr W)
                    (first | with_reducible exact unhide HSS _ (Below.refl _ _).drew | with_reducible exact unhide HSS _ ((Below.refl wr.heap.size wr).alloc (Nat.le_refl _) _).drew | with_reducible exact unhide HSS _ (((Below.refl wr.heap.size wr).alloc (Nat.le_refl _) _).alloc (by simp) _).drew | with_reducible exact unhide HSS _ (unhide HX3) | with_reducible exact unhide HSS _ ((unhide HX3).alloc (unhide HX3).size _) | with_reducible exact unhide HSS _ (((unhide HX3).alloc (unhide HX3).size _).alloc ((unhide HX3).alloc (unhide HX3).size _).size _) | (refine unhide HSS _ ?_; (repeat' (first | exact unhide HX3 | exact (Below.refl _ _).drew | refine Below.alloc ?_ ?_ _ | refine Below.setCell ?_ ?_ _ | exact Nat.le_refl _ | exact Nat.le_succ _ | exact (unhide HX3).size | (have hq := (unhide HX3).size; simp [World.setCell]; omega)))))
                    (first | (go_at_call 12; refine (unhide HADD _ (.bool false) (by go_split_ands; assumption)).mono ?_; rintro e w3 ⟨a1, d1, a2, d2, rfl, hn3, hl3, hb3⟩; have HX3 : Hid (Below wr.heap.size wr w3) := Below.next (by go_split_ands; assumption) hb3 (Nat.le_refl _); have HN3 := hide (hn3.base (show wr.heap.size ≤ _ from (show Below wr.heap.size wr _ by go_split_ands; assumption).size)); have HL3 := hide (hl3.base (show wr.heap.size ≤ _ from (show Below wr.heap.size wr _ by go_split_ands; assumption).size)); (try (have HZa : Hid (w3.heap[wr.heap.size]? = some (.cells #[.int .i64 0, .slice none 0 0] 24)) := keep_below (w := (wr.alloc (.cells #[.int .i64 0, .slice none 0 0] 24)).drew) (new_block wr (.cells #[.int .i64 0, .slice none 0 0] 24)) hb3; have hza := block2 (unhide HZa); have za0 := hza.1; have za1 := hza.2.1; have zaf0 := hza.2.2.1; have zaf1 := hza.2.2.2.1; have zal := hza.2.2.2.2; have HN4 : Hid (New KI (wr.heap.size + 1) w3 _ _) := hn3.base (Nat.le_of_eq (World.size_alloc wr _).symm); have HL4 : Hid (New KI (wr.heap.size + 1) w3 _ _) := hl3.base (Nat.le_of_eq (World.size_alloc wr _).symm))); (try (have HZb : Hid (w3.heap[wr.heap.size]? = some (.cells #[.int .i64 0, .int .i64 0] 29)) := keep_below (w := (wr.alloc (.cells #[.int .i64 0, .int .i64 0] 29)).drew) (new_block wr (.cells #[.int .i64 0, .int .i64 0] 29)) hb3; have hzb := block2 (unhide HZb); have zb0 := hzb.1; have zb1 := hzb.2.1; have zbf0 := hzb.2.2.1; have zbf1 := hzb.2.2.2.1; have zbl := hzb.2.2.2.2; have HN4 : Hid (New KI (wr.heap.size + 1) w3 _ _) := hn3.base (Nat.le_of_eq (World.size_alloc wr _).symm); have HL4 : Hid (New KI (wr.heap.size + 1) w3 _ _) := hl3.base (Nat.le_of_eq (World.size_alloc wr _).symm))); (try (have HZa : Hid (w3.heap[wr.heap.size]? = some (.cells #[.int .i64 0, .slice none 0 0] 24)) := keep_below (w := ((wr.alloc (.cells #[.int .i64 0, .slice none 0 0] 24)).alloc (.cells #[.int .i64 0, .int .i64 0] 29)).drew) (keep_alloc (new_block wr (.cells #[.int .i64 0, .slice none 0 0] 24)) (.cells #[.int .i64 0, .int .i64 0] 29)) hb3; have HZd : Hid (w3.heap[wr.heap.size + 1]? = some (.cells #[.int .i64 0, .int .i64 0] 29)) := keep_below (w := ((wr.alloc (.cells #[.int .i64 0, .slice none 0 0] 24)).alloc (.cells #[.int .i64 0, .int .i64 0] 29)).drew) (new_block2 wr (.cells #[.int .i64 0, .slice none 0 0] 24) (.cells #[.int .i64 0, .int .i64 0] 29)) hb3; have hza := block2 (unhide HZa); have za0 := hza.1; have za1 := hza.2.1; have zaf0 := hza.2.2.1; have zaf1 := hza.2.2.2.1; have zal := hza.2.2.2.2; have hzd := block2 (unhide HZd); have zd0 := hzd.1; have zd1 := hzd.2.1; have zdf0 := hzd.2.2.1; have zdf1 := hzd.2.2.2.1; have zdl := hzd.2.2.2.2; have HN5 : Hid (New KI (wr.heap.size + 1 + 1) w3 _ _) := hn3.base (two_le wr _ _); have HL5 : Hid (New KI (wr.heap.size + 1 + 1) w3 _ _) := hl3.base (two_le wr _ _))); (try (have HZb : Hid (w3.heap[wr.heap.size]? = some (.cells #[.int .i64 0, .int .i64 0] 29)) := keep_below (w := ((wr.alloc (.cells #[.int .i64 0, .int .i64 0] 29)).alloc (.cells #[.int .i64 0, .slice none 0 0] 24)).drew) (keep_alloc (new_block wr (.cells #[.int .i64 0, .int .i64 0] 29)) (.cells #[.int .i64 0, .slice none 0 0] 24)) hb3; have HZc : Hid (w3.heap[wr.heap.size + 1]? = some (.cells #[.int .i64 0, .slice none 0 0] 24)) := keep_below (w := ((wr.alloc (.cells #[.int .i64 0, .int .i64 0] 29)).alloc (.cells #[.int .i64 0, .slice none 0 0] 24)).drew) (new_block2 wr (.cells #[.int .i64 0, .int .i64 0] 29) (.cells #[.int .i64 0, .slice none 0 0] 24)) hb3; have hzb := block2 (unhide HZb); have zb0 := hzb.1; have zb1 := hzb.2.1; have zbf0 := hzb.2.2.1; have zbf1 := hzb.2.2.2.1; have zbl := hzb.2.2.2.2; have hzc := block2 (unhide HZc); have zc0 := hzc.1; have zc1 := hzc.2.1; have zcf0 := hzc.2.2.1; have zcf1 := hzc.2.2.2.1; have zcl := hzc.2.2.2.2; have HN5 : Hid (New KI (wr.heap.size + 1 + 1) w3 _ _) := hn3.base (two_le wr _ _); have HL5 : Hid (New KI (wr.heap.size + 1 + 1) w3 _ _) := hl3.base (two_le wr _ _))); clear hb3 hn3 hl3))
                  all_goals
                    go_wp2_with fail
                    go_meet
                    case rel =>
                      first
                        | exact ⟨_, _, a1, d1, a2, d2, rfl, rfl, rfl, rfl, got_1 (unhide HX3) (unhide HN3) (unhide HL3)⟩
                        | exact ⟨_, _, a1, d1, a2, d2, rfl, rfl, rfl, rfl, got_2 (unhide HX3) (unhide HN3) (unhide HL3)⟩
                        | exact ⟨_, _, a1, d1, a2, d2, rfl, rfl, rfl, rfl, got_3 (unhide HX3) (unhide HZa) (unhide HN4) (unhide HL4)⟩
                        | exact ⟨_, _, a1, d1, a2, d2, rfl, rfl, rfl, rfl, got_4 (unhide HX3) (unhide HZa) (unhide HZd) (unhide HN5) (unhide HL5)⟩
                        | exact ⟨_, _, a1, d1, a2, d2, rfl, rfl, rfl, rfl, got_5 (unhide HX3) (unhide HZb) (unhide HN4) (unhide HL4)⟩
                        | exact ⟨_, _, a1, d1, a2, d2, rfl, rfl, rfl, rfl, got_6 (unhide HX3) (unhide HZb) (unhide HZc) (unhide HN5) (unhide HL5)⟩
                case rest =>
                  obtain ⟨Y1, Y2, a1, d1, a2, d2, rfl, rfl, rfl, rfl, HGOT⟩ := hcut
                  have hbC := (unhide HGOT).bel
                  have hTC : T < wr.heap.size := size_of (unhide HPk)
                  have hY1 := (unhide HGOT).b1
                  have hY2 := (unhide HGOT).b2
                  have hY3 := (unhide HGOT).ne
                  have HNC := hide ((unhide HGOT).n1.base (Nat.succ_le_of_lt hTC))
                  have HLC := hide (unhide HGOT).n2
                  have HY1 := hide (unhide HGOT).h
                  have HY2 := hide (unhide HGOT).f
                  (have HX_r1 := hide (Below.next (unhide HXk) hbC (by first | exact Nat.le_refl _ | (have := unhide HBA; omega))); have Kp_r1 := hide (keep_below (unhide HPk) hbC); have Ol_r1 := hide ((unhide HOk).below hbC); clear HXk HPk HOk)
                  have hT1 : T < Y1 := by omega
                  have hT2 : T < Y2 := by omega
                  clear hbC
                  have k9 := ((unhide HLI).below (unhide HX_r1) hb0).ints (j := k) (by rw [unhide HN]; exact hlt)
                  rw [unhide HEM] at k9
                  go_upto_region 32 with fail
                  clear k9
                  obtain ⟨f0, f1, ff0, ff1, fl⟩ := block2 (unhide HY2)
                  go_upto_region 34 with (go_at_call 17; refine (ints_same _ _ _ L (unhide HLC).1 (unhide Ol_r1).isl (by rw [unhide HNL]; unfold maxLen; omega)).mono ?_; rintro e w5 ⟨rfl, hb5⟩; have HX_r2 := hide (Below.next (unhide HX_r1) hb5 (by first | exact Nat.le_refl _ | (have := unhide HBA; omega))); have Kp_r2 := hide (keep_below (unhide Kp_r1) hb5); have Km_r2 := hide (keep_below (unhide HY1) hb5); have Kf_r2 := hide (keep_below (unhide HY2) hb5); have Ol_r2 := hide ((unhide Ol_r1).below hb5); have FN_r2 := hide ((unhide HNC).below hb5); clear HX_r1 Kp_r1 HY1 HY2 Ol_r1 HNC; clear hb5 f0 f1 ff0 ff1 fl)
                  obtain ⟨p0, p1, pf0, pf1, pl⟩ := block2 (unhide Kp_r2)
                  obtain ⟨m0, m1, mf0, mf1, ml⟩ := block2 (unhide Km_r2)
                  go_wp2_with fail
                  clear p0 p1 pf0 pf1 pl m0 m1 mf0 mf1 ml
                  have NN_r3 := hide ((unhide FN_r2).keep ki (fun k hk _ => put2_keep (y0 := .int .i64 0) (y1 := .slice a1 0 d1) (show k ≠ T by omega)))
                  clear FN_r2
                  have HX_r3 := hide (put2_below (y0 := .int .i64 0) (y1 := .slice a1 0 d1) (unhide HX_r2) (show w.heap.size ≤ T by first | omega | (have := unhide HBA; omega)))
                  have Kp_r3 := hide (put2_new (y0 := .int .i64 0) (y1 := .slice a1 0 d1) (unhide Kp_r2))
                  have Km_r3 := hide ((put2_keep (y0 := .int .i64 0) (y1 := .slice a1 0 d1) (show Y1 ≠ T by omega)).trans (unhide Km_r2))
                  have Kf_r3 := hide ((put2_keep (y0 := .int .i64 0) (y1 := .slice a1 0 d1) (show Y2 ≠ T by omega)).trans (unhide Kf_r2))
                  have Ol_r3 := hide ((unhide Ol_r2).keep (fun k hk => put2_keep (y0 := .int .i64 0) (y1 := .slice a1 0 d1) (Own.ne (unhide Ol_r2) (unhide Kp_r2) (by decide) k hk)))
                  obtain ⟨W7, eW7⟩ : ∃ X, put2 w5 (T) (.int .i64 0) (.slice a1 0 d1) = X := ⟨_, rfl⟩
                  rw [eW7] at HX_r3 Kp_r3 Km_r3 Kf_r3 Ol_r3 NN_r3
                  have eW72 : ((w5).setCell ⟨T, 0, none⟩ (.int .i64 0)).setCell ⟨T, 1, none⟩ (.slice a1 0 d1) = W7 := eW7
                  rw [eW72]
                  clear eW7 eW72 HX_r2 Kp_r2 Km_r2 Kf_r2 Ol_r2
                  go_roundw
                  case rel => exact ⟨k + 1, a1, d1, by omega, by rw [unhide HR1], by go_num, by rw [unhide HR1, unhide HGE, unhide HRZ]; exact Kp_r3, by rw [unhide HGE]; exact NN_r3, Ol_r3, HX_r3⟩
                  case measure => simp [intOf]; omega
              · have HADD : Hid (∀ W (v' : Value), Below wr.heap.size wr W → Calls Try.prog 12 #[.agg #[.int .i64 R, .slice a NL c], .int .i64 (-m)] W fun e w' => ∃ a1 d1 a2 d2, e = .returned (.tuple #[.agg #[.int .i64 (R - m), .slice a1 NL d1], .slice a2 0 d2, .bool false, .agg #[.int .i64 0, .int .i64 0]]) ∧ New KI W.heap.size w' (.slice a1 NL d1) L ∧ New KI W.heap.size w' (.slice a2 0 d2) [] ∧ Below W.heap.size W w') := fun W v' hW => (add_ok W _ R L (-m) ⟨_, rfl, (unhide HWk).1.below hW⟩ hf).mono fun e w' ⟨v1, v2, h1, h2, h3, h4⟩ => by
                  rw [hep hz] at h1 h2 h3
                  obtain ⟨a1, d1, rfl, h5⟩ := h2.form
                  obtain ⟨a2, d2, rfl⟩ := h3.1.form
                  have h3b := h3
                  simp only [unhide HNL, List.length_nil] at h1 h5 h3b
                  exact ⟨a1, d1, a2, d2, h1, h5, h3b, h4⟩
                have xz : ((R - m) == 0) = false := by simpa using hz
                have xz2 : 0 < R - m := by omega
                have HGE : Hid (gL zs j S (tk + 1) (k + 1) = L) := hide (by rw [unhide HEG, if_neg hz])
                clear hf hez hep hz hrm HEG
                go_upto_region 30 with fail
                go_cut [18, 19, 20, 21] (fun s8 s9 s10 s11 W => ∃ (Y1 Y2 : Nat) (a1 : Option Addr) (d1 : Nat) (a2 : Option Addr) (d2 : Nat), s8 = .pointer (some ⟨Y1, 0, none⟩) ∧ s9 = .slice a2 0 d2 ∧ s10 = .bool false ∧ s11 = .pointer (some ⟨Y2, 0, none⟩) ∧ Hid (Got2 wr W Y1 Y2 (.int .i64 (R - m)) (.slice a1 NL d1) (.slice a2 0 d2) L []))
                case first =>
                  have HSS : Hid (∀ W, Below wr.heap.size wr W → (W.cell? ⟨T, 0, none⟩ = some (.int .i64 R) ∧ W.cell? ⟨T, 1, none⟩ = some (.slice a NL c)) ∧ W.cell? ⟨b0, o0 + k, none⟩ = some (.int .i64 m) ∧ Below wr.heap.size wr W) := fun W hW => by
                    obtain ⟨k0, k1, -⟩ := block2 (keep_below (unhide HPk) hW)
                    exact ⟨⟨k0, k1⟩, (hW.cell (p := ⟨b0, o0 + k, none⟩) (unhide HB0)).trans (unhide HK0), hW⟩
                  obtain ⟨⟨k0, k1⟩, k2, -⟩ := unhide HSS _ (Below.refl _ _)
                  go_wp2_with fail
                  go_region_held3 (fun W => (W.cell? ⟨T, 0, none⟩ = some (.int .i64 R) ∧ W.cell? ⟨T, 1, none⟩ = some (.slice a NL c)) ∧ W.cell? ⟨b0, o0 + k, none⟩ = some (.int .i64 m) ∧ Below wr.heap.size wr W)
                    (first | with_reducible exact unhide HSS _ (Below.refl _ _).drew | with_reducible exact unhide HSS _ ((Below.refl wr.heap.size wr).alloc (Nat.le_refl _) _).drew | with_reducible exact unhide HSS _ (((Below.refl wr.heap.size wr).alloc (Nat.le_refl _) _).alloc (by simp) _).drew | with_reducible exact unhide HSS _ (unhide HX3) | with_reducible exact unhide HSS _ ((unhide HX3).alloc (unhide HX3).size _) | with_reducible exact unhide HSS _ (((unhide HX3).alloc (unhide HX3).size _).alloc ((unhide HX3).alloc (unhide HX3).size _).size _) | (refine unhide HSS _ ?_; (repeat' (first | exact unhide HX3 | exact (Below.refl _ _).drew | refine Below.alloc ?_ ?_ _ | refine Below.setCell ?_ ?_ _ | exact Nat.le_refl _ | exact Nat.le_succ _ | exact (unhide HX3).size | (have hq := (unhide HX3).size; simp [World.setCell]; omega)))))
                    (first | (go_at_call 12; refine (unhide HADD _ (.bool false) (by go_split_ands; assumption)).mono ?_; rintro e w3 ⟨a1, d1, a2, d2, rfl, hn3, hl3, hb3⟩; have HX3 : Hid (Below wr.heap.size wr w3) := Below.next (by go_split_ands; assumption) hb3 (Nat.le_refl _); have HN3 := hide (hn3.base (show wr.heap.size ≤ _ from (show Below wr.heap.size wr _ by go_split_ands; assumption).size)); have HL3 := hide (hl3.base (show wr.heap.size ≤ _ from (show Below wr.heap.size wr _ by go_split_ands; assumption).size)); (try (have HZa : Hid (w3.heap[wr.heap.size]? = some (.cells #[.int .i64 0, .slice none 0 0] 24)) := keep_below (w := (wr.alloc (.cells #[.int .i64 0, .slice none 0 0] 24)).drew) (new_block wr (.cells #[.int .i64 0, .slice none 0 0] 24)) hb3; have hza := block2 (unhide HZa); have za0 := hza.1; have za1 := hza.2.1; have zaf0 := hza.2.2.1; have zaf1 := hza.2.2.2.1; have zal := hza.2.2.2.2; have HN4 : Hid (New KI (wr.heap.size + 1) w3 _ _) := hn3.base (Nat.le_of_eq (World.size_alloc wr _).symm); have HL4 : Hid (New KI (wr.heap.size + 1) w3 _ _) := hl3.base (Nat.le_of_eq (World.size_alloc wr _).symm))); (try (have HZb : Hid (w3.heap[wr.heap.size]? = some (.cells #[.int .i64 0, .int .i64 0] 29)) := keep_below (w := (wr.alloc (.cells #[.int .i64 0, .int .i64 0] 29)).drew) (new_block wr (.cells #[.int .i64 0, .int .i64 0] 29)) hb3; have hzb := block2 (unhide HZb); have zb0 := hzb.1; have zb1 := hzb.2.1; have zbf0 := hzb.2.2.1; have zbf1 := hzb.2.2.2.1; have zbl := hzb.2.2.2.2; have HN4 : Hid (New KI (wr.heap.size + 1) w3 _ _) := hn3.base (Nat.le_of_eq (World.size_alloc wr _).symm); have HL4 : Hid (New KI (wr.heap.size + 1) w3 _ _) := hl3.base (Nat.le_of_eq (World.size_alloc wr _).symm))); (try (have HZa : Hid (w3.heap[wr.heap.size]? = some (.cells #[.int .i64 0, .slice none 0 0] 24)) := keep_below (w := ((wr.alloc (.cells #[.int .i64 0, .slice none 0 0] 24)).alloc (.cells #[.int .i64 0, .int .i64 0] 29)).drew) (keep_alloc (new_block wr (.cells #[.int .i64 0, .slice none 0 0] 24)) (.cells #[.int .i64 0, .int .i64 0] 29)) hb3; have HZd : Hid (w3.heap[wr.heap.size + 1]? = some (.cells #[.int .i64 0, .int .i64 0] 29)) := keep_below (w := ((wr.alloc (.cells #[.int .i64 0, .slice none 0 0] 24)).alloc (.cells #[.int .i64 0, .int .i64 0] 29)).drew) (new_block2 wr (.cells #[.int .i64 0, .slice none 0 0] 24) (.cells #[.int .i64 0, .int .i64 0] 29)) hb3; have hza := block2 (unhide HZa); have za0 := hza.1; have za1 := hza.2.1; have zaf0 := hza.2.2.1; have zaf1 := hza.2.2.2.1; have zal := hza.2.2.2.2; have hzd := block2 (unhide HZd); have zd0 := hzd.1; have zd1 := hzd.2.1; have zdf0 := hzd.2.2.1; have zdf1 := hzd.2.2.2.1; have zdl := hzd.2.2.2.2; have HN5 : Hid (New KI (wr.heap.size + 1 + 1) w3 _ _) := hn3.base (two_le wr _ _); have HL5 : Hid (New KI (wr.heap.size + 1 + 1) w3 _ _) := hl3.base (two_le wr _ _))); (try (have HZb : Hid (w3.heap[wr.heap.size]? = some (.cells #[.int .i64 0, .int .i64 0] 29)) := keep_below (w := ((wr.alloc (.cells #[.int .i64 0, .int .i64 0] 29)).alloc (.cells #[.int .i64 0, .slice none 0 0] 24)).drew) (keep_alloc (new_block wr (.cells #[.int .i64 0, .int .i64 0] 29)) (.cells #[.int .i64 0, .slice none 0 0] 24)) hb3; have HZc : Hid (w3.heap[wr.heap.size + 1]? = some (.cells #[.int .i64 0, .slice none 0 0] 24)) := keep_below (w := ((wr.alloc (.cells #[.int .i64 0, .int .i64 0] 29)).alloc (.cells #[.int .i64 0, .slice none 0 0] 24)).drew) (new_block2 wr (.cells #[.int .i64 0, .int .i64 0] 29) (.cells #[.int .i64 0, .slice none 0 0] 24)) hb3; have hzb := block2 (unhide HZb); have zb0 := hzb.1; have zb1 := hzb.2.1; have zbf0 := hzb.2.2.1; have zbf1 := hzb.2.2.2.1; have zbl := hzb.2.2.2.2; have hzc := block2 (unhide HZc); have zc0 := hzc.1; have zc1 := hzc.2.1; have zcf0 := hzc.2.2.1; have zcf1 := hzc.2.2.2.1; have zcl := hzc.2.2.2.2; have HN5 : Hid (New KI (wr.heap.size + 1 + 1) w3 _ _) := hn3.base (two_le wr _ _); have HL5 : Hid (New KI (wr.heap.size + 1 + 1) w3 _ _) := hl3.base (two_le wr _ _))); clear hb3 hn3 hl3))
                  all_goals
                    go_wp2_with fail
                    go_meet
                    case rel =>
                      first
                        | exact ⟨_, _, a1, d1, a2, d2, rfl, rfl, rfl, rfl, got_1 (unhide HX3) (unhide HN3) (unhide HL3)⟩
                        | exact ⟨_, _, a1, d1, a2, d2, rfl, rfl, rfl, rfl, got_2 (unhide HX3) (unhide HN3) (unhide HL3)⟩
                        | exact ⟨_, _, a1, d1, a2, d2, rfl, rfl, rfl, rfl, got_3 (unhide HX3) (unhide HZa) (unhide HN4) (unhide HL4)⟩
                        | exact ⟨_, _, a1, d1, a2, d2, rfl, rfl, rfl, rfl, got_4 (unhide HX3) (unhide HZa) (unhide HZd) (unhide HN5) (unhide HL5)⟩
                        | exact ⟨_, _, a1, d1, a2, d2, rfl, rfl, rfl, rfl, got_5 (unhide HX3) (unhide HZb) (unhide HN4) (unhide HL4)⟩
                        | exact ⟨_, _, a1, d1, a2, d2, rfl, rfl, rfl, rfl, got_6 (unhide HX3) (unhide HZb) (unhide HZc) (unhide HN5) (unhide HL5)⟩
                case rest =>
                  obtain ⟨Y1, Y2, a1, d1, a2, d2, rfl, rfl, rfl, rfl, HGOT⟩ := hcut
                  have hbC := (unhide HGOT).bel
                  have hTC : T < wr.heap.size := size_of (unhide HPk)
                  have hY1 := (unhide HGOT).b1
                  have hY2 := (unhide HGOT).b2
                  have hY3 := (unhide HGOT).ne
                  have HNC := hide ((unhide HGOT).n1.base (Nat.succ_le_of_lt hTC))
                  have HLC := hide (unhide HGOT).n2
                  have HY1 := hide (unhide HGOT).h
                  have HY2 := hide (unhide HGOT).f
                  (have HX_s1 := hide (Below.next (unhide HXk) hbC (by first | exact Nat.le_refl _ | (have := unhide HBA; omega))); have Kp_s1 := hide (keep_below (unhide HPk) hbC); have Ol_s1 := hide ((unhide HOk).below hbC); clear HXk HPk HOk)
                  have hT1 : T < Y1 := by omega
                  have hT2 : T < Y2 := by omega
                  clear hbC
                  have k9 := ((unhide HLI).below (unhide HX_s1) hb0).ints (j := k) (by rw [unhide HN]; exact hlt)
                  rw [unhide HEM] at k9
                  go_upto_region 32 with fail
                  clear k9
                  obtain ⟨f0, f1, ff0, ff1, fl⟩ := block2 (unhide HY2)
                  go_upto_region 34 with fail
                  clear f0 f1 ff0 ff1 fl
                  obtain ⟨p0, p1, pf0, pf1, pl⟩ := block2 (unhide Kp_s1)
                  obtain ⟨m0, m1, mf0, mf1, ml⟩ := block2 (unhide HY1)
                  go_wp2_with fail
                  clear p0 p1 pf0 pf1 pl m0 m1 mf0 mf1 ml
                  have NN_s2 := hide ((unhide HNC).keep ki (fun k hk _ => put2_keep (y0 := .int .i64 (R - m)) (y1 := .slice a1 NL d1) (show k ≠ T by omega)))
                  clear HNC
                  have HX_s2 := hide (put2_below (y0 := .int .i64 (R - m)) (y1 := .slice a1 NL d1) (unhide HX_s1) (show w.heap.size ≤ T by first | omega | (have := unhide HBA; omega)))
                  have Kp_s2 := hide (put2_new (y0 := .int .i64 (R - m)) (y1 := .slice a1 NL d1) (unhide Kp_s1))
                  have Km_s2 := hide ((put2_keep (y0 := .int .i64 (R - m)) (y1 := .slice a1 NL d1) (show Y1 ≠ T by omega)).trans (unhide HY1))
                  have Kf_s2 := hide ((put2_keep (y0 := .int .i64 (R - m)) (y1 := .slice a1 NL d1) (show Y2 ≠ T by omega)).trans (unhide HY2))
                  have Ol_s2 := hide ((unhide Ol_s1).keep (fun k hk => put2_keep (y0 := .int .i64 (R - m)) (y1 := .slice a1 NL d1) (Own.ne (unhide Ol_s1) (unhide Kp_s1) (by decide) k hk)))
                  obtain ⟨W7, eW7⟩ : ∃ X, put2 wc (T) (.int .i64 (R - m)) (.slice a1 NL d1) = X := ⟨_, rfl⟩
                  rw [eW7] at HX_s2 Kp_s2 Km_s2 Kf_s2 Ol_s2 NN_s2
                  have eW72 : ((wc).setCell ⟨T, 0, none⟩ (.int .i64 (R - m))).setCell ⟨T, 1, none⟩ (.slice a1 NL d1) = W7 := eW7
                  rw [eW72]
                  clear eW7 eW72 HX_s1 Kp_s1 HY1 HY2 Ol_s1
                  go_roundw
                  case rel => exact ⟨k + 1, a1, d1, by omega, by rw [unhide HR1], by go_num, by rw [unhide HR1, unhide HGE, unhide HNL]; exact Kp_s2, by rw [unhide HGE, unhide HNL]; exact NN_s2, Ol_s2, HX_s2⟩
                  case measure => simp [intOf]; omega
            · have hkn : k = j := by omega
              subst hkn
              have hcx3 : ¬ (k : Int) < (k : Int) := by omega
              have e0 : S - sumTo zs k = 0 := by rw [unhide HES]; omega
              have eg : gL zs k S (tk + 1) k = [] := by unfold gL; rw [if_pos e0]
              rw [e0, eg] at HPk
              rw [eg] at HWk
              simp only [List.length_nil] at HPk HWk
              have HLA : Hid (∀ W v', IsG KI W v' 0 [] → Calls Try.prog 12 #[v', .int .i64 (-1)] W fun e w' => ∃ a1 d1 a2 d2, e = .returned (.tuple #[.agg #[.int .i64 0, .slice a1 0 d1], .slice a2 0 d2, .bool true, .agg #[.int .i64 0, .int .i64 0]]) ∧ Below W.heap.size W w') := fun W v' hv => (add_ok W v' 0 [] (-1) hv (by decide)).mono fun e w' ⟨v1, v2, h1, h2, h3, h4⟩ => by
                have er : addR 0 [] (-1) = (((0, []), []), true) := rfl
                rw [er] at h1 h2 h3
                obtain ⟨a1, d1, rfl, h5⟩ := h2.form
                obtain ⟨a2, d2, rfl⟩ := h3.1.form
                exact ⟨a1, d1, a2, d2, h1, h4⟩
              clear e0 eg
              obtain ⟨p0, p1, pf0, pf1, pl⟩ := block2 (unhide HPk)
              go_upto_region 36 with (go_at_call 12; refine (unhide HLA _ _ ⟨_, rfl, (unhide HWk).1⟩).mono ?_; rintro e w2 ⟨a1, d1, a2, d2, rfl, hb2⟩; have HIE := hide (isl_empty2 (unhide HWk).1); have HX_e1 := hide (Below.next (unhide HXk) hb2 (by first | exact Nat.le_refl _ | (have := unhide HBA; omega))); have Kp_e1 := hide (keep_below (unhide HPk) hb2); clear HXk HPk; clear hb2 p0 p1 pf0 pf1 pl)
              obtain ⟨W3, eW3, hBW3, k0_e2, k1_e2⟩ := two_new w2 (.cells #[.int .i64 0, .slice a1 0 d1] 24) (.cells #[.int .i64 0, .int .i64 0] 29)
              rw [eW3]
              clear eW3
              have hlp_m : T < w2.heap.size := size_of (unhide Kp_e1)
              (have HX_e2 := hide (Below.next (unhide HX_e1) hBW3 (by first | exact Nat.le_refl _ | (have := unhide HBA; omega))); have Kp_e2 := hide (keep_below (unhide Kp_e1) hBW3); clear HX_e1 Kp_e1)
              obtain ⟨M, eM⟩ : ∃ X, w2.heap.size = X := ⟨_, rfl⟩
              rw [eM] at k0_e2 k1_e2 hlp_m ⊢
              have Km_e2 := hide k0_e2
              have Kf_e2 := hide k1_e2
              clear eM hBW3 k0_e2 k1_e2
              obtain ⟨p0, p1, pf0, pf1, pl⟩ := block2 (unhide Kp_e2)
              obtain ⟨f0, f1, ff0, ff1, fl⟩ := block2 (unhide Kf_e2)
              go_wp2_with (go_at_call 15; refine (sameGroup_any _ _ _ 0 [] ⟨_, rfl, unhide HIE _⟩ (zero_g _ 0) (by simp [maxLen])).mono ?_; rintro e w4 ⟨rfl, hb4⟩; have HX_e3 := hide (Below.next (unhide HX_e2) hb4 (by first | exact Nat.le_refl _ | (have := unhide HBA; omega))); have Kp_e3 := hide (keep_below (unhide Kp_e2) hb4); have Km_e3 := hide (keep_below (unhide Km_e2) hb4); have Kf_e3 := hide (keep_below (unhide Kf_e2) hb4); clear HX_e2 Kp_e2 Km_e2 Kf_e2; clear hb4 p0 p1 pf0 pf1 pl f0 f1 ff0 ff1 fl)
              go_ret
              exact ⟨rfl, unhide HX_e3⟩
end Go.Proofs.Ytpogcfdmkeebmaa
