/-
  clock.Check.
-/
import Derived.Test.YtidpmcanfedbdaaI
namespace Go.Proofs.Ytidpmcanfedbdaa
open Go.RowKit

/-- What is wrong with a clock. -/
def clockF (now next : Int) (xs : List Al) : Int × Int := if 5000 < xs.length then (2, 0) else if now < 0 ∨ 1000000000 < now ∨ next < 0 ∨ 1000000000 < next then (3, 0) else firstC (alP now next) [] xs 0

theorem at4 (w : World) (a b c d : Obj) : Below w.heap.size w (((((w.alloc a).alloc b).alloc c).alloc d).drew) ∧ (((((w.alloc a).alloc b).alloc c).alloc d).drew).heap[w.heap.size]? = some a ∧ (((((w.alloc a).alloc b).alloc c).alloc d).drew).heap[w.heap.size + 1]? = some b ∧ (((((w.alloc a).alloc b).alloc c).alloc d).drew).heap[w.heap.size + 1 + 1]? = some c ∧ (((((w.alloc a).alloc b).alloc c).alloc d).drew).heap[w.heap.size + 1 + 1 + 1]? = some d := by
  obtain ⟨W, rfl, h, k0, k1, k2, k3⟩ := four_new w a b c d
  exact ⟨h.drew, k0, k1, k2, k3⟩
theorem below_a {w W : World} (h : Below w.heap.size w W) (o : Obj) : Below w.heap.size w (W.alloc o) := h.alloc h.size o
theorem below_s {w W : World} (h : Below w.heap.size w W) {g i : Nat} (hg : w.heap.size ≤ g) (v : Value) : Below w.heap.size w (W.setCell ⟨g, i, none⟩ v) := h.setCell hg v

set_option maxRecDepth 100000 in
set_option maxHeartbeats 2000000 in
theorem check_any (w : World) (v : Value) (now next : Int) (xs : List Al) (h : IsC w v now next xs) (hn : xs.length ≤ maxLen) :
    Calls Try.prog 11 #[v] w fun e w' => e = .returned (faultV (clockF now next xs)) ∧ Below w.heap.size w w' := by
  obtain ⟨a0, c0, rfl, hL⟩ := h.form
  have HL := hide hL
  obtain ⟨R, eR⟩ : ∃ R, clockF now next xs = R := ⟨_, rfl⟩
  rw [eR]
  unfold clockF at eR
  obtain ⟨n, en⟩ : ∃ n, xs.length = n := ⟨_, rfl⟩
  rw [en] at HL hn eR ⊢
  unfold maxLen at hn
  have HN := hide en; have HR := hide eR
  clear h hL en eR
  obtain ⟨W0, e0, hB, k0, k1⟩ := two_new w (.cells #[.int .i64 now, .int .i64 next, .slice a0 n c0] 24) (.cells #[.int .i64 0, .int .i64 0] 29)
  have HX := hide hB; have HE := hide e0; have HK := hide k0; have HP := hide k1
  clear hB e0 k0 k1
  go_enter Try.func11, Try.ntmps11
  go_upto_region 1 with fail
  rw [unhide HE]
  clear HE
  obtain ⟨⟨k0, k1, k2⟩, -, kl⟩ := block3 (unhide HK)
  obtain ⟨p0, p1, f0, f1, pl⟩ := block2 (unhide HP)
  by_cases q1 : 5000 < n
  · have hr := unhide HR
    rw [if_pos q1] at hr
    subst hr
    have j1 : (5000 : Int) < (n : Int) := by omega
    clear HR
    go_wp2_with fail
    exact bodyPost_ret (v := .agg #[.int .i64 2, .int .i64 0]) (by simp [results, Try.results11, go_sem, p0, p1]) rfl ⟨rfl, below_set2 (unhide HX) (Nat.le_succ _) _ _⟩
  have hr := unhide HR
  rw [if_neg q1] at hr
  have HR2 := hide hr
  have j1 : ¬ (5000 : Int) < (n : Int) := by omega
  clear HR hr
  have HA := hide (within_any W0 now 0 1000000000)
  have HB := hide (within_any W0 next 0 1000000000)
  by_cases q2 : 0 ≤ now ∧ now ≤ 1000000000
  · rw [decide_eq_true q2] at HA
    by_cases q3 : 0 ≤ next ∧ next ≤ 1000000000
    · rw [decide_eq_true q3] at HB
      have hr := unhide HR2
      rw [if_neg (by omega)] at hr
      have HR3 := hide hr
      have HQ2 := hide q2; have HQ3 := hide q3
      clear HR2 hr q2 q3
      go_upto_region 5 with (go_at_call 23; (first | (with_reducible refine Calls.mono (unhide HA) ?_) | (with_reducible refine Calls.mono (unhide HB) ?_)); rintro e w1 ⟨rfl, rfl⟩)
      have hmk := make_set (n : Int)
      go_cut [3, 4] (fun a b W => ∃ C E M N : Nat, a = .pointer (some ⟨C, 0, none⟩) ∧ b = .pointer (some ⟨E, 0, none⟩) ∧ Hid (W.heap[C]? = some (.cells #[.map (some M)] 58 (0, 0))) ∧ Hid (W.heap[E]? = some (.cells #[.map (some N)] 58 (0, 0))) ∧ Hid (IsSet W M []) ∧ Hid (IsSet W N []) ∧ M ≠ N ∧ w1.heap.size ≤ M ∧ w1.heap.size ≤ N ∧ Hid (Below w1.heap.size w1 W))
      case first =>
        have HSS : Hid (∀ W, Below w1.heap.size w1 W → W.cell? ⟨w.heap.size, 2, none⟩ = some (.slice a0 n c0) ∧ Below w1.heap.size w1 W) := fun W hW => by
          obtain ⟨⟨-, -, k2⟩, -, -⟩ := block3 (keep_below (unhide HK) hW)
          exact ⟨k2, hW⟩
        clear k0 k1 k2 kl p0 p1 f0 f1 pl
        obtain ⟨k2, -⟩ := unhide HSS _ (Below.refl _ _)
        go_wp2_with fail
        go_region_held3 (fun W => W.cell? ⟨w.heap.size, 2, none⟩ = some (.slice a0 n c0) ∧ Below w1.heap.size w1 W)
          (exact unhide HSS _ (by repeat' (first | exact Below.refl _ _ | refine Below.drew ?_ | refine below_a ?_ _ | refine below_s ?_ ?_ _ | (simp; done) | (simp; omega))))
          (fail)
        all_goals
          go_wp2_with fail
          go_meet
          case rel =>
            refine ⟨_, _, ?_, ?_, rfl, rfl, ?_, ?_, ?_, ?_, ?_, ?_, ?_, ?_⟩
            rotate_left 2
            · first | exact (at4 w1 _ _ _ _).2.1 | exact (at4 w1 _ _ _ _).2.2.1 | exact (at4 w1 _ _ _ _).2.2.2.1 | exact (at4 w1 _ _ _ _).2.2.2.2
            · first | exact (at4 w1 _ _ _ _).2.1 | exact (at4 w1 _ _ _ _).2.2.1 | exact (at4 w1 _ _ _ _).2.2.2.1 | exact (at4 w1 _ _ _ _).2.2.2.2
            · first | exact (at4 w1 _ _ _ _).2.1 | exact (at4 w1 _ _ _ _).2.2.1 | exact (at4 w1 _ _ _ _).2.2.2.1 | exact (at4 w1 _ _ _ _).2.2.2.2
            · first | exact (at4 w1 _ _ _ _).2.1 | exact (at4 w1 _ _ _ _).2.2.1 | exact (at4 w1 _ _ _ _).2.2.2.1 | exact (at4 w1 _ _ _ _).2.2.2.2
            · omega
            · omega
            · omega
            · exact (at4 w1 _ _ _ _).1
      case rest =>
        obtain ⟨C, E, M, N, rfl, rfl, HC, HE, HM, HNn, hMN, hM1, hN1, HBc⟩ := hcut
        have HX2 := hide (Below.next (unhide HX) (unhide HBc) (Nat.le_refl _)); have HK2 := hide (keep_below (unhide HK) (unhide HBc)); have HP2 := hide (keep_below (unhide HP) (unhide HBc))
        have hWM : w.heap.size + 1 < w1.heap.size := size_of (unhide HP)
        have HS2 : Hid (Chk M C N E w.heap.size now next (.slice a0 n c0) [] [] wc) := ⟨unhide HM, unhide HC, unhide HNn, unhide HE, unhide HK2⟩
        have HL2 := hide ((unhide HL).below (unhide HX2))
        have HMM : Hid (wc.heap[M]? = some (.map #[] 0)) := unhide HM
        have HNN : Hid (wc.heap[N]? = some (.map #[] 0)) := unhide HNn
        have HF := hide (firstW_any wc _ xs (unhide HL2) (by rw [unhide HN]; omega) M #[] 0 (unhide HMM) N (unhide HNN) 25 enters_check #[.pointer (some ⟨w.heap.size, 0, none⟩), .pointer (some ⟨C, 0, none⟩), .pointer (some ⟨E, 0, none⟩)] (alP now next) (fun pre W => Chk M C N E w.heap.size now next (.slice a0 n c0) (ids pre) (seqs pre) W ∧ IsL KA W (.slice a0 n c0) xs) (fun pre x W hp hB hW => by
          obtain ⟨t, c, u, y⟩ := x
          have hlt : 0 < xs.length := by obtain ⟨r, hr⟩ := hp; have := congrArg List.length hr; rw [List.length_append, List.length_cons] at this; omega
          refine (check1_any W M C N E w.heap.size now next a0 n c0 xs pre t c u y hW.1 hMN hW.2 hp (by omega) (unhide HQ2).1 (unhide HQ2).2 (unhide HQ3).1 (unhide HQ3).2).mono fun e w' ⟨h1, h2, h3⟩ => ⟨h1, h2, fun h0 => ⟨h3 h0, ?_⟩⟩
          obtain ⟨b, off, c', ev, hb, hl⟩ := hW.2.at ka hlt
          cases ev
          exact (hl.but2 h2 hb (lies_no_map ka hl hlt hW.1.s1) (lies_no_map ka hl hlt hW.1.s2)).isl ka (unhide HN) hW.2.fits) (fun _ _ _ hW hb => ⟨hW.1.below hb, hW.2.below hb⟩) ⟨unhide HS2, unhide HL2⟩)
        rw [unhide HR3] at HF
        clear HS2 HC HE HM HNn HMM HNN HBc k0 k1 k2 kl p0 p1 f0 f1 pl
        obtain ⟨⟨k0, k1, k2⟩, -, kl⟩ := block3 (unhide HK2)
        obtain ⟨p0, p1, f0, f1, pl⟩ := block2 (unhide HP2)
        go_wp2_with (go_at_call 24; refine (unhide HF).mono ?_; rintro e w3 ⟨he, hb3⟩; obtain rfl : e = .returned (.agg #[.int .i64 R.1, .int .i64 R.2]) := he; have HX3 := hide ((unhide HX2).trans (hb3.below (by omega) (by omega) (unhide HX2).size)); have HP3 := hide (keep_but2 (unhide HP2) hb3 (by omega) (by omega)); clear hb3 HX2 HP2 k0 k1 k2 kl p0 p1 f0 f1 pl; obtain ⟨p0, p1, f0, f1, pl⟩ := block2 (unhide HP3))
        exact bodyPost_ret (v := .agg #[.int .i64 R.1, .int .i64 R.2]) (by simp [results, Try.results11, go_sem, p0, p1]) rfl ⟨rfl, below_set2 (unhide HX3) (Nat.le_succ _) _ _⟩
    · have hr := unhide HR2
      rw [if_pos (by omega)] at hr
      subst hr
      rw [decide_eq_false q3] at HB
      clear HR2 q2 q3
      go_wp2_with (go_at_call 23; (first | (with_reducible refine Calls.mono (unhide HA) ?_) | (with_reducible refine Calls.mono (unhide HB) ?_)); rintro e w1 ⟨rfl, rfl⟩)
      exact bodyPost_ret (v := .agg #[.int .i64 3, .int .i64 0]) (by simp [results, Try.results11, go_sem, p0, p1]) rfl ⟨rfl, below_set2 (unhide HX) (Nat.le_succ _) _ _⟩
  · have hr := unhide HR2
    rw [if_pos (by omega)] at hr
    subst hr
    rw [decide_eq_false q2] at HA
    clear HR2 q2
    go_wp2_with (go_at_call 23; (with_reducible refine Calls.mono (unhide HA) ?_); rintro e w1 ⟨rfl, rfl⟩)
    exact bodyPost_ret (v := .agg #[.int .i64 3, .int .i64 0]) (by simp [results, Try.results11, go_sem, p0, p1]) rfl ⟨rfl, below_set2 (unhide HX) (Nat.le_succ _) _ _⟩
end Go.Proofs.Ytidpmcanfedbdaa
