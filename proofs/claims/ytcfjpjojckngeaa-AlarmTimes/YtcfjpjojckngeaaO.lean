/-
  taskmillref.Dropped; taskmilllaw.AlarmDrops returns true.
-/
import Derived.Test.YtcfjpjojckngeaaN
namespace Go.Proofs.Ytcfjpjojckngeaa
open Go.RowKit

theorem tAt_take {ts : List Tm} {n j : Nat} (h : j < n) : tAt (ts.take n) j = tAt ts j := by
  simp [tAt, h]
theorem Cells.take {w : World} {b off : Nat} {ts : List Tm} (h : Cells w b off ts) {n : Nat} (hn : n ≤ ts.length) : Cells w b off (ts.take n) := fun j hj => by
  rw [List.length_take] at hj
  rw [tAt_take (by omega)]
  exact h j (by omega)
theorem Cells.part {w : World} {b off : Nat} {ts : List Tm} (h : Cells w b off ts) {n : Nat} (hn : n ≤ ts.length) (c : Nat) : IsTs w (.slice (some ⟨b, off, none⟩) n c) (ts.take n) := by
  have := (h.take hn).ts c
  rw [show (ts.take n).length = n by rw [List.length_take]; omega] at this
  exact this

set_option maxRecDepth 100000 in
set_option maxHeartbeats 2000000 in
theorem dropped_last (w : World) (b off n c : Nat) (ts : List Tm) (hl : ts.length = n + 1) (hn : n ≤ 10000) (hcap : n + 1 ≤ c) (hc : Cells w b off ts) :
    Calls Try.prog 18 #[.slice (some ⟨b, off, none⟩) (n + 1) c, .int .i64 n] w fun e w' => ∃ a' c', e = .returned (.slice a' n c') ∧ Own w.heap.size w' (.slice a' n c') (dropL ts n) ∧ Below w.heap.size w w' := by
  rw [dropL_last hl]
  have HP := hide (hc.part (n := n) (by omega) c)
  have HTL : Hid ((ts.take n).length = n) := by show _ = _; rw [List.length_take]; omega
  have g1 : (0 : Int) ≤ (n : Int) := by omega
  have g2 : (n : Int) < (n : Int) + 1 := by omega
  have g3 : (n : Int) ≤ (c : Int) := by omega
  have wn : IntKind.i64.wrap ((n : Int) + 1 - 1) = (n : Int) := by simp [IntKind.wrap, IntKind.bits, IntKind.signed]; omega
  have q1 : ((n : Int) == (n : Int)) = true := by simp
  clear hc hl
  go_enter Try.func18, Try.ntmps18
  go_wp2_with (at_builtin; refine wpList_append_ts rfl (.const (.slice none 0 0)) (.tmp 13) rfl w.heap.size _ [] rfl (own_nil _ _) _ (ts.take n) rfl (unhide HP) n (by rw [unhide HTL]; simp) (by omega) (Nat.le_refl _) ?_; intro a1 c1 w1 ho hg; have HO := hide (own_nil_append ho); have HB := hide ((Below.refl w.heap.size w).grown hg (Nat.le_refl _) (fun k hk => by cases hk)); clear ho hg)
  go_ret
  exact ⟨a1, c1, rfl, unhide HO, unhide HB⟩

set_option maxRecDepth 100000 in
set_option maxHeartbeats 2000000 in
theorem dropped_in (w : World) (b off n c : Nat) (ts : List Tm) (hl : ts.length = n + 1) (hn : n ≤ 10000) (hcap : n + 1 ≤ c) (hb : b < w.heap.size) (hc : Cells w b off ts) (i : Nat) (hi : i < n) :
    Calls Try.prog 18 #[.slice (some ⟨b, off, none⟩) (n + 1) c, .int .i64 i] w fun e w' => ∃ a' c', e = .returned (.slice a' n c') ∧ Own w.heap.size w' (.slice a' n c') (dropL ts i) ∧ Below w.heap.size w w' := by
  have HP := hide (hc.part (n := n) (by omega) c)
  have HTL : Hid ((ts.take n).length = n) := by show _ = _; rw [List.length_take]; omega
  have g1 : (0 : Int) ≤ (n : Int) := by omega
  have g2 : (n : Int) < (n : Int) + 1 := by omega
  have g3 : (n : Int) ≤ (c : Int) := by omega
  have wn : IntKind.i64.wrap ((n : Int) + 1 - 1) = (n : Int) := by simp [IntKind.wrap, IntKind.bits, IntKind.signed]; omega
  obtain ⟨us, hus⟩ : ∃ us, (ts.take n).set i (tAt ts n) = us := ⟨_, rfl⟩
  have hul : us.length = n := by rw [← hus, List.length_set, List.length_take]; omega
  have hD := dropL_in hl hi hus
  obtain ⟨R, hR⟩ : ∃ R, riseL us i = R := ⟨_, rfl⟩
  have hRl : R.1.length = n := by rw [← hR, riseL, riseF_length, hul]
  rw [hR] at hD
  have HRI : Hid (∀ W v, IsTs W v us → Calls Try.prog 16 #[v, .int .i64 i] W fun e w' => ∃ g c, e = .returned (.tuple #[.slice (some ⟨g, 0, none⟩) n c, .int .i64 (R.2 : Nat)]) ∧ W.heap.size ≤ g ∧ Row w' g c R.1 ∧ Below W.heap.size W w') := fun W v hW => by
    have := risen_any W v us n i hul hi hn hW
    rw [hR] at this
    exact this
  obtain ⟨u, v, huv⟩ : ∃ u v, tAt ts n = (u, v) := ⟨_, _, rfl⟩
  have HC : Hid (∀ W, Below w.heap.size w W → W.cell? ⟨b, off + n * 2, none⟩ = some (.int .i64 u) ∧ W.cell? ⟨b, off + n * 2 + 1, none⟩ = some (.int .i64 v)) := fun W hW => by
    have := hc.below hW hb n (by omega)
    rw [huv] at this
    exact this
  have HPUT : Hid (∀ W g c, Row W g c (ts.take n) → Row (put2 W g (i * 2) (u, v)) g c us) := fun W g c hW => by
    have := hW.put i (u, v)
    rw [show (ts.take n).set i (u, v) = us by rw [← huv]; exact hus] at this
    exact this
  have HD := hide hD; have HRL := hide hRl; have HUL := hide hul
  have q1 : ((i : Int) == (n : Int)) = false := by simp; omega
  have g4 : (0 : Int) ≤ (i : Int) := by omega
  have g5 : (i : Int) < (n : Int) := by omega
  clear hc hl hus hD hR hRl hul huv
  go_enter Try.func18, Try.ntmps18
  go_upto_region 5 with (at_builtin; refine wpList_append_ts rfl (.const (.slice none 0 0)) (.tmp 13) rfl w.heap.size _ [] rfl (own_nil _ _) _ (ts.take n) rfl (unhide HP) n (by rw [unhide HTL]; simp) (by omega) (Nat.le_refl _) ?_; intro a1 c1 w1 ho hg; have HO := hide (own_nil_append ho); have HB := hide ((Below.refl w.heap.size w).grown hg (Nat.le_refl _) (fun k hk => by cases hk)); clear ho hg)
  obtain ⟨g, cg, ev, hgw, hrow⟩ := (unhide HO).row (by rw [unhide HTL]; omega)
  rw [unhide HTL] at ev
  cases ev
  have HW := hide (unhide HPUT _ _ _ hrow)
  have HB2 := hide (((But.refl g w1).put (i * 2) (u, v)).below hgw (unhide HB).size)
  obtain ⟨x, y, hxy⟩ : ∃ x y, tAt (ts.take n) i = (x, y) := ⟨_, _, rfl⟩
  obtain ⟨l0, l1⟩ := hrow.at (j := i) (by rw [unhide HTL]; exact hi) hxy
  have z0 := hrow.free (i * 2)
  have z1 := hrow.free (i * 2 + 1)
  obtain ⟨k0, k1⟩ := unhide HC _ (unhide HB)
  clear hrow HO hxy
  have HTS : Hid (IsTs (put2 w1 g (i * 2) (u, v)) (.slice (some ⟨g, 0, none⟩) n c1) us) := by
    have := ((unhide HW).own (Nat.le_refl g)).ts
    rw [unhide HUL] at this
    exact this
  go_upto_region 7 with (go_at_call 16; refine (unhide HRI _ _ (unhide HTS)).mono ?_; rintro e w3 ⟨g3', c3, rfl, hg3, hr3, hb3⟩; have HG3 := hide hg3; have HR3 := hide hr3; have HB3 := hide ((unhide HB).trans ((unhide HB2).trans (hb3.mono (Nat.le_trans (unhide HB).size (unhide HB2).size)))); have HS3 := hide (Nat.le_trans (unhide HB).size (unhide HB2).size); clear hg3 hr3 hb3 l0 l1 k0 k1 z0 z1)
  have HT3 : Hid (IsTs w3 (.slice (some ⟨g3', 0, none⟩) n c3) R.1) := by
    have := ((unhide HR3).own (Nat.le_refl g3')).ts
    rw [unhide HRL] at this
    exact this
  by_cases hk : R.2 = i
  · have q2 : ((R.2 : Int) == (i : Int)) = true := by simp [hk]
    have HDD := hide ((unhide HD).trans (if_pos hk))
    clear hk
    go_wp2_with (go_at_call 30; refine (sunk_any _ _ R.1 n i (unhide HRL) hi hn (unhide HT3)).mono ?_; rintro e w4 ⟨g4', c4, rfl, hg4, hr4, hb4⟩; have HG4 := hide hg4; have HR4 := hide hr4; have HB4 := hide ((unhide HB3).trans (hb4.mono (unhide HB3).size)); clear hg4 hr4 hb4)
    go_ret
    refine ⟨_, c4, rfl, ?_, unhide HB4⟩
    rw [unhide HDD]
    have := (unhide HR4).own (base := w.heap.size) (Nat.le_trans (unhide HB3).size (unhide HG4))
    rw [sinkL_length, unhide HRL] at this
    exact this
  · have q2 : ((R.2 : Int) == (i : Int)) = false := by simp; omega
    have HDD := hide ((unhide HD).trans (if_neg hk))
    clear hk
    go_wp2_with fail
    go_ret
    refine ⟨_, c3, rfl, ?_, unhide HB3⟩
    rw [unhide HDD]
    have := (unhide HR3).own (base := w.heap.size) (Nat.le_trans (unhide HS3) (unhide HG3))
    rw [unhide HRL] at this
    exact this

theorem dropped_any (w : World) (b off n c : Nat) (ts : List Tm) (hl : ts.length = n + 1) (hn : n ≤ 10000) (hcap : n + 1 ≤ c) (hb : b < w.heap.size) (hc : Cells w b off ts) (i : Nat) (hi : i ≤ n) :
    Calls Try.prog 18 #[.slice (some ⟨b, off, none⟩) (n + 1) c, .int .i64 i] w fun e w' => ∃ a' c', e = .returned (.slice a' n c') ∧ Own w.heap.size w' (.slice a' n c') (dropL ts i) ∧ Below w.heap.size w w' := by
  by_cases e : i = n
  · subst e; exact dropped_last w b off i c ts hl hn hcap hc
  · exact dropped_in w b off n c ts hl hn hcap hb hc i (by omega)
end Go.Proofs.Ytcfjpjojckngeaa
