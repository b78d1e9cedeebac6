/-
  lock.checkWhole, lock.checkWant, lock.Check.
-/
import Derived.Test.YtdpcbmekplcllaaF
namespace Go.Proofs.Ytdpcbmekplcllaa
open Go.RowKit

/-- What is wrong with how a lock's parts go together. -/
def wholeC (r : Int) (bw : Bool) (l : List Po) : Int := if 5000 < l.length then 2 else if r < 0 ∨ 1000000000 < r then 3 else if (bw = true ∧ 0 < r) ∨ lets r bw l = true then 5 else 0
/-- What is wrong with one who waits behind others. -/
def wantC (pre : List Int) (x : Po) : Int := if x.1 < 1 then 3 else if pre.contains x.1 = true then 10 else if x.2.2 ≠ 0 then 5 else 0
/-- What is wrong with a line, behind others. -/
def lineC (pre : List Int) : List Po → Int → Int × Int
  | [], _ => (0, 0)
  | x :: l, i => if wantC pre x ≠ 0 then (wantC pre x, i + 1) else lineC (pre ++ [x.1]) l (i + 1)
/-- What is wrong with a lock. -/
def lockF (P : Lk) : Int × Int := if wholeC P.readers P.writer P.line ≠ 0 then (wholeC P.readers P.writer P.line, 0) else lineC [] P.line 0

set_option maxRecDepth 100000 in
set_option maxHeartbeats 1000000 in
theorem checkWhole_any (w : World) (v : Value) (P : Lk) (h : IsLock w v P) :
    Calls Try.prog 25 #[v] w fun e w' => e = .returned (.int .i64 (wholeC P.readers P.writer P.line)) ∧ Below w.heap.size w w' := by
  obtain ⟨r, bw, line⟩ := P
  obtain ⟨a0, c0, rfl, hL⟩ := h.form
  simp only at hL ⊢
  have HA : Hid (∀ W, Below w.heap.size w W → Calls Try.prog 35 #[.agg #[.int .i64 r, .bool bw, .slice a0 line.length c0]] W fun e w' => e = .returned (.bool (lets r bw line)) ∧ Below W.heap.size W w') := fun W hW => admits_any W _ ⟨r, bw, line⟩ (h.below hW)
  obtain ⟨R, eR⟩ : ∃ R, wholeC r bw line = R := ⟨_, rfl⟩
  rw [eR]
  unfold wholeC at eR
  obtain ⟨q, hq⟩ : ∃ q, lets r bw line = q := ⟨_, rfl⟩
  rw [hq] at HA eR
  generalize line.length = n at *
  have HR := hide eR
  clear h hL hq eR line
  have HX := hide ((Below.refl w.heap.size w).alloc (Nat.le_refl _) (.cells #[.int .i64 r, .bool bw, .slice a0 n c0] 24))
  have HP := hide (new_block w (.cells #[.int .i64 r, .bool bw, .slice a0 n c0] 24))
  go_enter Try.func25, Try.ntmps25
  go_upto_region 1 with fail
  obtain ⟨W0, e0⟩ : ∃ W, w.alloc (.cells #[.int .i64 r, .bool bw, .slice a0 n c0] 24) = W := ⟨_, rfl⟩
  rw [e0] at HX HP ⊢
  clear e0
  obtain ⟨⟨p0, p1, p2⟩, -, pl⟩ := block3 (unhide HP)
  by_cases q1 : 5000 < n
  · have hr2 := unhide HR
    rw [if_pos q1] at hr2
    subst hr2
    have j1 : (5000 : Int) < (n : Int) := by omega
    clear HR
    go_wp2_with fail
    go_ret
    exact ⟨rfl, unhide HX⟩
  · have j1 : ¬ (5000 : Int) < (n : Int) := by omega
    by_cases q2 : r < 0
    · have hr2 := unhide HR
      rw [if_neg q1, if_pos (Or.inl q2)] at hr2
      subst hr2
      clear HR
      go_wp2_with fail
      go_ret
      exact ⟨rfl, unhide HX⟩
    · by_cases q3 : 1000000000 < r
      · have hr2 := unhide HR
        rw [if_neg q1, if_pos (Or.inr q3)] at hr2
        subst hr2
        clear HR
        go_wp2_with fail
        go_ret
        exact ⟨rfl, unhide HX⟩
      · have hr2 := unhide HR
        rw [if_neg q1, if_neg (fun h => h.elim q2 q3)] at hr2
        have HR2 := hide hr2
        clear HR hr2
        have hcase : (bw = true ∧ 0 < r) ∨ bw = false ∨ (bw = true ∧ ¬ 0 < r) := by cases bw <;> simp <;> omega
        rcases hcase with ⟨rfl, q4⟩ | rfl | ⟨rfl, q4⟩
        · have hr2 := unhide HR2
          rw [if_pos (Or.inl ⟨rfl, q4⟩)] at hr2
          subst hr2
          clear HR2
          go_wp2_with fail
          go_ret
          exact ⟨rfl, unhide HX⟩
        all_goals
          have hr2 := unhide HR2
          have e1 : R = if q = true then 5 else 0 := by
            rw [← hr2]
            cases q <;> simp [*]
          clear HR2 hr2
          cases q with
          | true =>
            simp only [if_true] at e1
            subst e1
            go_wp2_with (go_at_call 35; refine (unhide HA _ (unhide HX)).mono ?_; rintro e w1 ⟨rfl, hb1⟩; have HX1 := hide (Below.next (unhide HX) hb1 (Nat.le_refl _)); clear hb1)
            go_ret
            exact ⟨rfl, unhide HX1⟩
          | false =>
            simp only [Bool.false_eq_true, if_false] at e1
            subst e1
            go_wp2_with (go_at_call 35; refine (unhide HA _ (unhide HX)).mono ?_; rintro e w1 ⟨rfl, hb1⟩; have HX1 := hide (Below.next (unhide HX) hb1 (Nat.le_refl _)); clear hb1)
            go_ret
            exact ⟨rfl, unhide HX1⟩

set_option maxRecDepth 100000 in
set_option maxHeartbeats 1000000 in
theorem checkWant_any (w : World) (B : Nat) (pre : List Int) (t : Int) (c : Bool) (u : Int) (hS : IsSet w B pre) :
    Calls Try.prog 26 #[.map (some B), .agg #[.int .i64 t, .bool c, .int .i64 u]] w fun e w' => e = .returned (.int .i64 (wantC pre (t, c, u))) ∧ Below w.heap.size w w' := by
  have HH : Hid (∀ W, Below w.heap.size w W → Calls Try.prog 36 #[.map (some B), .int .i64 t] W fun e w' => e = .returned (.bool (pre.contains t)) ∧ Below W.heap.size W w') := fun W hW => sethas_any W B pre t (hS.below hW)
  obtain ⟨R, eR⟩ : ∃ R, wantC pre (t, c, u) = R := ⟨_, rfl⟩
  rw [eR]
  unfold wantC at eR
  simp only at eR
  obtain ⟨q, hq⟩ : ∃ q, pre.contains t = q := ⟨_, rfl⟩
  rw [hq] at HH eR
  have HR := hide eR
  clear hS hq eR
  have HX := hide ((Below.refl w.heap.size w).alloc (Nat.le_refl _) (.cells #[.int .i64 t, .bool c, .int .i64 u] 41))
  have HP := hide (new_block w (.cells #[.int .i64 t, .bool c, .int .i64 u] 41))
  go_enter Try.func26, Try.ntmps26
  go_upto_region 1 with fail
  obtain ⟨W0, e0⟩ : ∃ W, w.alloc (.cells #[.int .i64 t, .bool c, .int .i64 u] 41) = W := ⟨_, rfl⟩
  rw [e0] at HX HP ⊢
  clear e0
  obtain ⟨⟨p0, p1, p2⟩, -, pl⟩ := block3 (unhide HP)
  by_cases q1 : t < 1
  · have hr2 := unhide HR
    rw [if_pos q1] at hr2
    subst hr2
    clear HR
    go_wp2_with fail
    go_ret
    exact ⟨rfl, unhide HX⟩
  · have hr2 := unhide HR
    rw [if_neg q1] at hr2
    have HR2 := hide hr2
    clear HR hr2
    cases q with
    | true =>
      have hr2 := unhide HR2
      rw [if_pos rfl] at hr2
      subst hr2
      clear HR2
      go_wp2_with (go_at_call 36; refine (unhide HH _ (unhide HX)).mono ?_; rintro e w1 ⟨rfl, hb1⟩; have HX1 := hide (Below.next (unhide HX) hb1 (Nat.le_refl _)); clear hb1)
      go_ret
      exact ⟨rfl, unhide HX1⟩
    | false =>
      have hr2 := unhide HR2
      rw [if_neg (by simp)] at hr2
      have HR3 := hide hr2
      clear HR2 hr2
      by_cases q3 : u = 0
      · have hr2 := unhide HR3
        rw [if_neg (by simpa using q3)] at hr2
        subst hr2
        have x3 : (u != 0) = false := by simpa using q3
        clear HR3 q3
        go_wp2_with (go_at_call 36; refine (unhide HH _ (unhide HX)).mono ?_; rintro e w1 ⟨rfl, hb1⟩; have HX1 := hide (Below.next (unhide HX) hb1 (Nat.le_refl _)); have HP1 := hide (keep_below (unhide HP) hb1); clear hb1 p0 p1 p2 pl; obtain ⟨⟨p0, p1, p2⟩, -, pl⟩ := block3 (unhide HP1))
        go_ret
        exact ⟨rfl, unhide HX1⟩
      · have hr2 := unhide HR3
        rw [if_pos q3] at hr2
        subst hr2
        have x3 : (u != 0) = true := by simpa using q3
        clear HR3 q3
        go_wp2_with (go_at_call 36; refine (unhide HH _ (unhide HX)).mono ?_; rintro e w1 ⟨rfl, hb1⟩; have HX1 := hide (Below.next (unhide HX) hb1 (Nat.le_refl _)); have HP1 := hide (keep_below (unhide HP) hb1); clear hb1 p0 p1 p2 pl; obtain ⟨⟨p0, p1, p2⟩, -, pl⟩ := block3 (unhide HP1))
        go_ret
        exact ⟨rfl, unhide HX1⟩
end Go.Proofs.Ytdpcbmekplcllaa
