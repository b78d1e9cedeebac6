/-
  slices.Index, slices.Contains of numbers; sync.waits, sync.fresh, sync.checkComes.
-/
import Derived.Test.YtpogcfdmkeebmaaI
namespace Go.Proofs.Ytpogcfdmkeebmaa
open Go.RowKit

set_option maxRecDepth 100000 in
set_option maxHeartbeats 1000000 in
theorem index_any (w : World) (v : Value) (xs : List Int) (x : Int) (h : IsL KI w v xs) (hn : xs.length ≤ maxLen) :
    Calls Try.prog 62 #[v, .int .i64 x] w fun e w' => ∃ r : Int, e = .returned (.int .i64 r) ∧ (0 ≤ r ↔ xs.contains x = true) ∧ w' = w := by
  obtain ⟨a0, c0, rfl⟩ := h.form
  have H0 := hide (h.opens ki rfl)
  have HR := hide (contains_iff xs x)
  obtain ⟨n, en⟩ : ∃ n, xs.length = n := ⟨_, rfl⟩
  rw [en] at H0 HR hn ⊢
  have HN := hide en
  unfold maxLen at hn
  clear h en
  go_enter Try.func62, Try.ntmps62
  go_wp2
  go_loopw [8] (fun i wr => ∃ j : Nat, j ≤ n ∧ i = .int .i64 j ∧ wr = w ∧ ∀ i, i < j → xs.getD i 0 ≠ x) (fun i _ => n - (intOf i).toNat)
  case atStart => exact ⟨0, Nat.zero_le _, rfl, rfl, fun i hi => by omega⟩
  case round =>
    obtain ⟨j, hj, rfl, rfl, hne⟩ := hrel
    have HNE := hide hne
    clear hne
    by_cases hlt : j < n
    · obtain ⟨b0, o0, rfl, hb0, l0⟩ := unhide H0 (by omega)
      have k0 := l0.ints (j := j) (by rw [unhide HN]; exact hlt)
      obtain ⟨z, ez⟩ : ∃ z, xs.getD j 0 = z := ⟨_, rfl⟩
      rw [ez] at k0
      have HZ := hide ez
      have i0 : (0 : Int) ≤ (j : Int) := by omega
      have i1 : (j : Int) < (n : Int) := by omega
      clear ez l0 H0
      by_cases hz : x = z
      · subst hz
        have hz1 : (x == x) = true := by simp
        go_wp2
        go_ret
        exact ⟨_, rfl, ⟨fun _ => (unhide HR).2 ⟨j, hlt, unhide HZ⟩, fun _ => i0⟩, rfl⟩
      · have hz1 : (x == z) = false := by simpa using hz
        go_wp2
        go_roundw
        case rel => exact ⟨j + 1, by omega, by go_num, by first | rfl | trivial, fun i hi => by
          by_cases e : i = j
          · subst e; rw [unhide HZ]; exact fun e => hz e.symm
          · exact unhide HNE i (by omega)⟩
        case measure => simp [intOf]; omega
    · go_wp2
      go_ret
      refine ⟨_, rfl, ⟨fun h => ?_, fun h => ?_⟩, rfl⟩
      · omega
      · obtain ⟨i, hi, he⟩ := (unhide HR).1 h
        exact absurd he (unhide HNE i (by omega))

set_option maxRecDepth 100000 in
set_option maxHeartbeats 1000000 in
theorem contains_any (w : World) (v : Value) (xs : List Int) (x : Int) (h : IsL KI w v xs) (hn : xs.length ≤ maxLen) :
    Calls Try.prog 54 #[v, .int .i64 x] w fun e w' => e = .returned (.bool (xs.contains x)) ∧ w' = w := by
  have HI := hide (index_any w v xs x h hn)
  obtain ⟨a0, c0, rfl⟩ := h.form
  obtain ⟨q, hq⟩ : ∃ q, xs.contains x = q := ⟨_, rfl⟩
  rw [hq] at HI ⊢
  clear h hq
  go_enter Try.func54, Try.ntmps54
  cases q with
  | true =>
    go_wp2_with (go_at_call 62; refine (unhide HI).mono ?_; rintro e w1 ⟨r, rfl, hr, rfl⟩; have hr0 : 0 ≤ r := hr.2 rfl; clear hr)
    go_ret
    exact ⟨rfl, rfl⟩
  | false =>
    go_wp2_with (go_at_call 62; refine (unhide HI).mono ?_; rintro e w1 ⟨r, rfl, hr, rfl⟩; have hr0 : ¬ 0 ≤ r := (fun h => Bool.false_ne_true (hr.1 h)); clear hr; have HD := hide (decide_eq_false hr0); clear hr0)
    go_ret
    exact ⟨by have hd := unhide HD; simp [hd], rfl⟩

set_option maxRecDepth 100000 in
set_option maxHeartbeats 1000000 in
theorem waits_any (w : World) (v : Value) (xs : List Int) (x : Int) (h : IsL KI w v xs) (hn : xs.length ≤ maxLen) :
    Calls Try.prog 44 #[v, .int .i64 x] w fun e w' => e = .returned (.bool (xs.contains x)) ∧ w' = w := by
  have HI := hide (contains_any w v xs x h hn)
  obtain ⟨a0, c0, rfl⟩ := h.form
  obtain ⟨q, hq⟩ : ∃ q, xs.contains x = q := ⟨_, rfl⟩
  rw [hq] at HI ⊢
  clear h hq
  go_enter Try.func44, Try.ntmps44
  go_wp2_with (go_at_call 54; refine (unhide HI).mono ?_; rintro e w1 ⟨rfl, rfl⟩)
  go_ret
  exact ⟨rfl, rfl⟩

set_option maxRecDepth 100000 in
set_option maxHeartbeats 1000000 in
theorem fresh_any (w : World) (v : Value) (xs : List Int) (h : IsL KI w v xs) (hn : xs.length ≤ 100000) :
    Calls Try.prog 35 #[v] w fun e w' => ∃ a' c', e = .returned (.slice a' xs.length c') ∧ Own KI w.heap.size w' (.slice a' xs.length c') xs ∧ Below w.heap.size w w' := by
  obtain ⟨a, c, rfl⟩ := h.form
  have HR := hide h
  clear h
  have HEE := hide (own_empty (K := KI) w)
  go_enter Try.func35, Try.ntmps35
  go_wp2_with (at_builtin; refine wpList_append ki rfl (.tmp 3) (.tmp 4) rfl w.heap.size _ [] rfl (unhide HEE) _ xs rfl (IsL.below (unhide HR) ((Below.refl _ _).alloc (Nat.le_refl _) _)) xs.length (by simp) (by simp [KI]; omega) (by simp) ?_; intro a' c' w1 ho hg; have HO := hide (own_nil_append ho); have HB := hide (((Below.refl w.heap.size w).alloc (Nat.le_refl _) _).grown hg (by simp) (fun k hk => by cases hk; exact Nat.le_refl _)); clear ho hg)
  go_ret
  exact ⟨a', c', rfl, unhide HO, unhide HB⟩

/-- What is wrong with a task that comes to a line. -/
def comesF (xs : List Int) (x : Int) : Int × Int := if x < 1 then (3, -1) else if xs.contains x = true then (10, -1) else if xs.length = 5000 then (9, 0) else (0, 0)

set_option maxRecDepth 100000 in
set_option maxHeartbeats 2000000 in
theorem checkComes_any (w : World) (v : Value) (xs : List Int) (x : Int) (h : IsL KI w v xs) (hn : xs.length ≤ maxLen) :
    Calls Try.prog 37 #[v, .int .i64 x] w fun e w' => e = .returned (faultV (comesF xs x)) ∧ Below w.heap.size w w' := by
  have HI : Hid (∀ W, Below w.heap.size w W → Calls Try.prog 44 #[v, .int .i64 x] W fun e w' => e = .returned (.bool (xs.contains x)) ∧ w' = W) := fun W hW => waits_any W v xs x (h.below hW) hn
  obtain ⟨R, eR⟩ : ∃ R, comesF xs x = R := ⟨_, rfl⟩
  rw [eR]
  unfold comesF at eR
  obtain ⟨a0, c0, rfl⟩ := h.form
  obtain ⟨q, hq⟩ : ∃ q, xs.contains x = q := ⟨_, rfl⟩
  rw [hq] at HI eR
  unfold maxLen at hn
  generalize xs.length = n at *
  have HR := hide eR
  clear h hq eR
  have HX := hide ((Below.refl w.heap.size w).alloc (Nat.le_refl _) (.cells #[.int .i64 0, .int .i64 0] 29))
  have HP := hide (new_block w (.cells #[.int .i64 0, .int .i64 0] 29))
  go_enter Try.func37, Try.ntmps37
  go_upto_region 1 with fail
  obtain ⟨W0, e0⟩ : ∃ W, w.alloc (.cells #[.int .i64 0, .int .i64 0] 29) = W := ⟨_, rfl⟩
  rw [e0] at HX HP ⊢
  clear e0
  obtain ⟨q0, q1, f0, f1, pl⟩ := block2 (unhide HP)
  by_cases h1 : x < 1
  · have hr := unhide HR
    rw [if_pos h1] at hr
    subst hr
    clear HR
    go_wp2_with fail
    exact bodyPost_ret (v := .agg #[.int .i64 3, .int .i64 (-1)]) (by simp [results, Try.results37, go_sem, q0, q1]) rfl ⟨rfl, below_set2 (unhide HX) (Nat.le_refl _) _ _⟩
  have hr := unhide HR
  rw [if_neg h1] at hr
  have HR2 := hide hr
  clear HR hr
  cases q with
  | true =>
    have hr := unhide HR2
    rw [if_pos rfl] at hr
    subst hr
    clear HR2
    go_wp2_with (go_at_call 44; refine (unhide HI _ (unhide HX)).mono ?_; rintro e w1 ⟨rfl, rfl⟩)
    exact bodyPost_ret (v := .agg #[.int .i64 10, .int .i64 (-1)]) (by simp [results, Try.results37, go_sem, q0, q1]) rfl ⟨rfl, below_set2 (unhide HX) (Nat.le_refl _) _ _⟩
  | false =>
    have hr := unhide HR2
    rw [if_neg (by simp)] at hr
    have HR3 := hide hr
    clear HR2 hr
    by_cases h2 : n = 5000
    · have hr := unhide HR3
      rw [if_pos h2] at hr
      subst hr
      subst h2
      clear HR3
      go_wp2_with (go_at_call 44; refine (unhide HI _ (unhide HX)).mono ?_; rintro e w1 ⟨rfl, rfl⟩)
      exact bodyPost_ret (v := .agg #[.int .i64 9, .int .i64 0]) (by simp [results, Try.results37, go_sem, q0, q1]) rfl ⟨rfl, below_set2 (unhide HX) (Nat.le_refl _) _ _⟩
    · have hr := unhide HR3
      rw [if_neg h2] at hr
      subst hr
      have xn : ((n : Int) == 5000) = false := by simp; omega
      clear HR3 h2
      go_wp2_with (go_at_call 44; refine (unhide HI _ (unhide HX)).mono ?_; rintro e w1 ⟨rfl, rfl⟩)
      exact bodyPost_ret (v := .agg #[.int .i64 0, .int .i64 0]) (by simp [results, Try.results37, go_sem, q0, q1]) rfl ⟨rfl, below_set2 (unhide HX) (Nat.le_refl _) _ _⟩
end Go.Proofs.Ytpogcfdmkeebmaa
