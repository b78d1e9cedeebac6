/-
  A timer is taken out of its own row: alarm.without.
-/
import Derived.Test.YtcfjpjojckngeaaL
namespace Go.Proofs.Ytcfjpjojckngeaa
open Go.RowKit

/-- What is left of a heap without the timer at i. -/
def dropL (ts : List Tm) (i : Nat) : List Tm :=
  if i = ts.length - 1 then ts.take (ts.length - 1)
  else if (riseL ((ts.take (ts.length - 1)).set i (tAt ts (ts.length - 1))) i).2 = i then sinkL (riseL ((ts.take (ts.length - 1)).set i (tAt ts (ts.length - 1))) i).1 i
  else (riseL ((ts.take (ts.length - 1)).set i (tAt ts (ts.length - 1))) i).1
theorem dropL_last {ts : List Tm} {n : Nat} (hl : ts.length = n + 1) : dropL ts n = ts.take n := by
  unfold dropL
  rw [hl, Nat.add_sub_cancel, if_pos rfl]
theorem dropL_in {ts : List Tm} {n i : Nat} (hl : ts.length = n + 1) (hi : i < n) {us : List Tm} (hu : (ts.take n).set i (tAt ts n) = us) : dropL ts i = if (riseL us i).2 = i then sinkL (riseL us i).1 i else (riseL us i).1 := by
  unfold dropL
  rw [hl, Nat.add_sub_cancel, if_neg (by omega), hu]
theorem dropL_length {ts : List Tm} {n i : Nat} (hl : ts.length = n + 1) (hi : i ≤ n) : (dropL ts i).length = n := by
  have ht : (ts.take n).length = n := by rw [List.length_take]; omega
  by_cases h : i = n
  · subst h; rw [dropL_last hl, ht]
  · rw [dropL_in hl (by omega) rfl]
    have hs : ((ts.take n).set i (tAt ts n)).length = n := by rw [List.length_set, ht]
    split
    · rw [sinkL_length, riseL, riseF_length, hs]
    · rw [riseL, riseF_length, hs]

theorem Row.take {w : World} {g c : Nat} {ts : List Tm} (h : Row w g c ts) {k : Nat} (hk : k ≤ ts.length) : Row w g c (ts.take k) := by
  obtain ⟨cur, h1, h2, h3, h4, h5⟩ := h
  have e : (ts.take k).length = k := by rw [List.length_take]; omega
  refine ⟨cur, h1, by omega, h3, h4, ?_⟩
  rw [e, flat_take, ← h5, List.take_take]
  congr 1
  omega
theorem But.put_drew {g : Nat} {a b : World} (h : But g a b) (o : Nat) (t : Tm) : But g a (put2 b g o t) := h.put o t

set_option maxRecDepth 100000 in
set_option maxHeartbeats 2000000 in
theorem without_last (w : World) (g c n : Nat) (ts : List Tm) (hl : ts.length = n + 1) (hn : n ≤ 10000) (h : Row w g c ts) :
    Calls Try.prog 29 #[.slice (some ⟨g, 0, none⟩) (n + 1) c, .int .i64 n] w fun e w' => e = .returned (.slice (some ⟨g, 0, none⟩) n c) ∧ Row w' g c (dropL ts n) ∧ But g w w' := by
  rw [dropL_last hl]
  obtain ⟨u, v, huv⟩ : ∃ u v, tAt ts n = (u, v) := ⟨_, _, rfl⟩
  obtain ⟨k0, k1⟩ := h.at (by omega) huv
  have z0 := h.free (n * 2)
  have z1 := h.free (n * 2 + 1)
  have hc := h.fits
  have HROW : Hid (Row (put2 w g (n * 2) (u, v)) g c (ts.take n)) := by
    have h1 := (h.put n (u, v)).take (k := n) (by rw [List.length_set]; omega)
    rw [List.take_set, List.set_eq_of_length_le (by rw [List.length_take]; omega)] at h1
    exact h1
  clear h huv
  have g1 : (0 : Int) ≤ (n : Int) := by omega
  have g2 : (n : Int) < (n : Int) + 1 := by omega
  have g3 : (n : Int) ≤ (c : Int) := by omega
  have g4 : ¬ (n : Int) < (n : Int) := by omega
  have wn : IntKind.i64.wrap ((n : Int) + 1 - 1) = (n : Int) := by simp [IntKind.wrap, IntKind.bits, IntKind.signed]; omega
  clear hl hc
  go_enter Try.func29, Try.ntmps29
  go_wp2
  exact bodyPost_ret (v := .slice (some ⟨g, 0, none⟩) n c) (by simp [results, Try.results29, go_sem]) rfl ⟨rfl, unhide HROW, (But.refl g w).put _ (u, v)⟩

set_option maxRecDepth 100000 in
set_option maxHeartbeats 2000000 in
theorem without_in (w : World) (g c n i : Nat) (ts : List Tm) (hl : ts.length = n + 1) (hi : i < n) (hn : n ≤ 10000) (h : Row w g c ts) :
    Calls Try.prog 29 #[.slice (some ⟨g, 0, none⟩) (n + 1) c, .int .i64 i] w fun e w' => e = .returned (.slice (some ⟨g, 0, none⟩) n c) ∧ Row w' g c (dropL ts i) ∧ But g w w' := by
  obtain ⟨us, hus⟩ : ∃ us, (ts.take n).set i (tAt ts n) = us := ⟨_, rfl⟩
  have hul : us.length = n := by rw [← hus, List.length_set, List.length_take]; omega
  have hD := dropL_in hl hi hus
  obtain ⟨u, v, huv⟩ : ∃ u v, tAt ts n = (u, v) := ⟨_, _, rfl⟩
  obtain ⟨x, y, hxy⟩ : ∃ x y, tAt ts i = (x, y) := ⟨_, _, rfl⟩
  obtain ⟨k0, k1⟩ := h.at (by omega) huv
  obtain ⟨l0, l1⟩ := h.at (by omega) hxy
  have z0 := h.free (i * 2)
  have z1 := h.free (i * 2 + 1)
  have hc := h.fits
  have HROW : Hid (Row (put2 w g (i * 2) (u, v)) g c us) := by
    have h1 := (h.put i (u, v)).take (k := n) (by rw [List.length_set]; omega)
    rw [List.take_set, show (ts.take n).set i (u, v) = us by rw [← huv]; exact hus] at h1
    exact h1
  have HBUT := hide ((But.refl g w).put (i * 2) (u, v))
  have HRS := hide (rise_any _ g c n i us hul hi hn (unhide HROW))
  obtain ⟨R, hR⟩ : ∃ R, riseL us i = R := ⟨_, rfl⟩
  have hRl : R.1.length = n := by rw [← hR, riseL, riseF_length, hul]
  rw [hR] at HRS hD
  have HD := hide hD
  have HRL := hide hRl
  clear h huv hxy hus hD hR hRl
  have g1 : (0 : Int) ≤ (n : Int) := by omega
  have g2 : (n : Int) < (n : Int) + 1 := by omega
  have g3 : (n : Int) ≤ (c : Int) := by omega
  have g4 : (i : Int) < (n : Int) := by omega
  have g5 : (0 : Int) ≤ (i : Int) := by omega
  have g6 : (i : Int) < (n : Int) + 1 := by omega
  have wn : IntKind.i64.wrap ((n : Int) + 1 - 1) = (n : Int) := by simp [IntKind.wrap, IntKind.bits, IntKind.signed]; omega
  clear hl hc
  go_enter Try.func29, Try.ntmps29
  by_cases hk : R.2 = i
  · have q1 : ((R.2 : Int) == (i : Int)) = true := by simp [hk]
    have HDD := hide ((unhide HD).trans (if_pos hk))
    clear hk
    go_wp2_with (first
      | (go_at_call 28; refine (unhide HRS).mono ?_; rintro e w3 ⟨rfl, hr3, hb3⟩; have HR3 := hide hr3; have HB3 := hide ((unhide HBUT).trans hb3); clear hr3 hb3 k0 k1 l0 l1 z0 z1)
      | (go_at_call 33; refine (sink_any _ g c n i R.1 (unhide HRL) hi hn (unhide HR3)).mono ?_; rintro e w4 ⟨rfl, hr4, hb4⟩; have HR4 := hide hr4; have HB4 := hide ((unhide HB3).trans hb4); clear hr4 hb4))
    exact bodyPost_ret (v := .slice (some ⟨g, 0, none⟩) n c) (by simp [results, Try.results29, go_sem]) rfl ⟨rfl, by rw [unhide HDD]; exact unhide HR4, unhide HB4⟩
  · have q1 : ((R.2 : Int) == (i : Int)) = false := by simp; omega
    have HDD := hide ((unhide HD).trans (if_neg hk))
    clear hk
    go_wp2_with (first
      | (go_at_call 28; refine (unhide HRS).mono ?_; rintro e w3 ⟨rfl, hr3, hb3⟩; have HR3 := hide hr3; have HB3 := hide ((unhide HBUT).trans hb3); clear hr3 hb3 k0 k1 l0 l1 z0 z1))
    exact bodyPost_ret (v := .slice (some ⟨g, 0, none⟩) n c) (by simp [results, Try.results29, go_sem]) rfl ⟨rfl, by rw [unhide HDD]; exact unhide HR3, unhide HB3⟩

theorem without_any (w : World) (g c n i : Nat) (ts : List Tm) (hl : ts.length = n + 1) (hi : i ≤ n) (hn : n ≤ 10000) (h : Row w g c ts) :
    Calls Try.prog 29 #[.slice (some ⟨g, 0, none⟩) (n + 1) c, .int .i64 i] w fun e w' => e = .returned (.slice (some ⟨g, 0, none⟩) n c) ∧ Row w' g c (dropL ts i) ∧ But g w w' := by
  by_cases e : i = n
  · subst e; exact without_last w g c i ts hl hn h
  · exact without_in w g c n i ts hl (by omega) hn h
end Go.Proofs.Ytcfjpjojckngeaa
