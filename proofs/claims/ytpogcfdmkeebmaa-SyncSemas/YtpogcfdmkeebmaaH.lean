/-
  What a check of a line holds; the functions that sync.checkLine and sync.checkWants hand over.
-/
import Derived.Test.YtpogcfdmkeebmaaG
namespace Go.Proofs.Ytpogcfdmkeebmaa
open Go.RowKit

/-- What is wrong with a task in a line behind others. -/
def lineP (pre : List Int) (x : Int) : Int := if x < 1 then 3 else if pre.contains x = true then 10 else 0
/-- What is wrong with one who waits at a semaphore, behind others. -/
def wantP (pre : List Po) (x : Po) : Int := if x.1 < 1 ∨ x.2.2 < 1 ∨ 1000000000 < x.2.2 then 3 else if (tasks pre).contains x.1 = true then 10 else if x.2.1 = true then 5 else 0
/-- The set of what was seen, and the variable that it lies in. -/
def Seen (M C : Nat) (ks : List Int) (W : World) : Prop := IsSet W M ks ∧ W.heap[C]? = some (.cells #[.map (some M)] 89 (0, 0))
theorem Seen.below {M C : Nat} {ks : List Int} {W W' : World} (h : Seen M C ks W) (hb : Below W.heap.size W W') : Seen M C ks W' := ⟨h.1.below hb, keep_below h.2 hb⟩
theorem Seen.ne {M C : Nat} {ks : List Int} {W : World} (h : Seen M C ks W) : C ≠ M := by
  rintro rfl
  have h1 := h.1
  unfold IsSet at h1
  rw [h.2] at h1
  cases h1

set_option maxRecDepth 100000 in
set_option maxHeartbeats 1000000 in
theorem lineOne_any (w : World) (M C : Nat) (pre : List Int) (x : Int) (hS : Seen M C pre w) :
    Calls Try.prog 58 #[.int .i64 x, .pointer (some ⟨C, 0, none⟩)] w fun e w' => e = .returned (.int .i64 (lineP pre x)) ∧ But M w w' ∧ (lineP pre x = 0 → Seen M C (pre ++ [x]) w') := by
  obtain ⟨p0, -, pl⟩ := block1 hS.2
  have HCM := hide hS.ne
  have HS := hide hS.1; have HC := hide hS.2
  by_cases q1 : x < 1
  · have e : lineP pre x = 3 := by unfold lineP; rw [if_pos q1]
    rw [e]
    clear hS e
    go_enter Try.func58, Try.ntmps58
    go_wp2
    go_ret
    exact ⟨rfl, But.refl _ _, fun h => by cases h⟩
  · cases hq : pre.contains x with
    | true =>
      have e : lineP pre x = 10 := by unfold lineP; rw [if_neg q1, if_pos hq]
      rw [e]
      have HH := hide (sethas_any w M pre x hS.1)
      rw [hq] at HH
      clear hS e hq
      go_enter Try.func58, Try.ntmps58
      go_wp2_with (go_at_call 59; refine (unhide HH).mono ?_; rintro e w1 ⟨rfl, hb1⟩; have HB1 := hide hb1; clear hb1)
      go_ret
      exact ⟨rfl, But.of_below (unhide HB1), fun h => by cases h⟩
    | false =>
      have e : lineP pre x = 0 := by unfold lineP; rw [if_neg q1, if_neg (by rw [hq]; simp)]
      rw [e]
      have HH := hide (sethas_any w M pre x hS.1)
      rw [hq] at HH
      have HQ := hide hq
      clear hS e hq
      go_enter Try.func58, Try.ntmps58
      go_wp2_with (first
        | (go_at_call 59; refine (unhide HH).mono ?_; rintro e w1 ⟨rfl, hb1⟩; have HB1 := hide hb1; have HS1 := hide ((unhide HS).below hb1); have HC1 := hide (keep_below (unhide HC) hb1); clear hb1 p0 pl; obtain ⟨p0, -, pl⟩ := block1 (unhide HC1))
        | (go_at_call 60; refine (setadd_any _ M pre x (unhide HS1) (unhide HQ)).mono ?_; rintro e w2 ⟨rfl, e2⟩; have HE2 := hide e2; clear e2 p0 pl))
      go_ret
      refine ⟨rfl, ?_, fun _ => ?_⟩
      · rw [unhide HE2]
        exact (But.of_below (unhide HB1)).putObj _
      · rw [unhide HE2]
        exact ⟨IsSet.put (unhide HS1).lt, (heap_putObj _ (unhide HCM)).trans (unhide HC1)⟩
theorem enters_line : ∀ args w, (callFunc 58 args).run Try.prog w = .ok (.enter 58 args) w := fun _ _ => by kernel_rfl

set_option maxRecDepth 100000 in
set_option maxHeartbeats 2000000 in
theorem wantOne_any (w : World) (M C : Nat) (pre : List Po) (t : Int) (c : Bool) (u : Int) (hS : Seen M C (tasks pre) w) :
    Calls Try.prog 64 #[.agg #[.int .i64 t, .bool c, .int .i64 u], .pointer (some ⟨C, 0, none⟩)] w fun e w' => e = .returned (.int .i64 (wantP pre (t, c, u))) ∧ But M w w' ∧ (wantP pre (t, c, u) = 0 → Seen M C (tasks (pre ++ [(t, c, u)])) w') := by
  have et : tasks (pre ++ [(t, c, u)]) = tasks pre ++ [t] := by rw [tasks_append]; rfl
  rw [et]
  obtain ⟨R, eR⟩ : ∃ R, wantP pre (t, c, u) = R := ⟨_, rfl⟩
  rw [eR]
  unfold wantP at eR
  simp only at eR
  obtain ⟨ks, eks⟩ : ∃ ks, tasks pre = ks := ⟨_, rfl⟩
  rw [eks] at hS eR ⊢
  clear et eks
  have HCM := hide hS.ne
  have HX := hide ((Below.refl w.heap.size w).alloc (Nat.le_refl _) (.cells #[.int .i64 t, .bool c, .int .i64 u] 63))
  have HP := hide (new_block w (.cells #[.int .i64 t, .bool c, .int .i64 u] 63))
  have HS := hide (hS.1.below (unhide HX)); have HC := hide (keep_below hS.2 (unhide HX))
  have HR := hide eR
  clear hS eR
  go_enter Try.func64, Try.ntmps64
  go_upto_region 1 with fail
  obtain ⟨W0, e0⟩ : ∃ W, w.alloc (.cells #[.int .i64 t, .bool c, .int .i64 u] 63) = W := ⟨_, rfl⟩
  rw [e0] at HX HP HS HC ⊢
  clear e0
  obtain ⟨⟨p0, p1, p2⟩, -, pl⟩ := block3 (unhide HP)
  obtain ⟨c0, -, cl⟩ := block1 (unhide HC)
  by_cases q1 : t < 1
  · have hr := unhide HR
    rw [if_pos (Or.inl q1)] at hr
    subst hr
    clear HR
    go_wp2_with fail
    go_ret
    first | exact ⟨rfl, But.of_below (unhide HX), fun h => by cases h⟩ | exact ⟨rfl, But.of_below (unhide HX)⟩
  by_cases q2 : u < 1
  · have hr := unhide HR
    rw [if_pos (Or.inr (Or.inl q2))] at hr
    subst hr
    clear HR
    go_wp2_with fail
    go_ret
    first | exact ⟨rfl, But.of_below (unhide HX), fun h => by cases h⟩ | exact ⟨rfl, But.of_below (unhide HX)⟩
  by_cases q3 : 1000000000 < u
  · have hr := unhide HR
    rw [if_pos (Or.inr (Or.inr q3))] at hr
    subst hr
    clear HR
    go_wp2_with fail
    go_ret
    first | exact ⟨rfl, But.of_below (unhide HX), fun h => by cases h⟩ | exact ⟨rfl, But.of_below (unhide HX)⟩
  have hr := unhide HR
  rw [if_neg (fun h => h.elim q1 (fun h => h.elim q2 q3))] at hr
  have HH := hide (sethas_any W0 M ks t (unhide HS))
  have HR2 := hide hr
  clear HR hr
  cases hq : ks.contains t with
  | true =>
    rw [hq] at HH
    have hr := unhide HR2
    rw [if_pos hq] at hr
    subst hr
    clear HR2 hq
    go_wp2_with (go_at_call 59; refine (unhide HH).mono ?_; rintro e w1 ⟨rfl, hb1⟩; have HX1 := hide (Below.next (unhide HX) hb1 (Nat.le_refl _)); clear hb1 p0 p1 p2 pl c0 cl)
    go_ret
    exact ⟨rfl, But.of_below (unhide HX1), fun h => by cases h⟩
  | false =>
    rw [hq] at HH
    have hr := unhide HR2
    rw [if_neg (by rw [hq]; simp)] at hr
    have HR3 := hide hr
    have HQ := hide hq
    clear HR2 hr hq
    cases c with
    | true =>
      have hr := unhide HR3
      rw [if_pos rfl] at hr
      subst hr
      clear HR3
      go_wp2_with (go_at_call 59; refine (unhide HH).mono ?_; rintro e w1 ⟨rfl, hb1⟩; have HX1 := hide (Below.next (unhide HX) hb1 (Nat.le_refl _)); have HP1 := hide (keep_below (unhide HP) hb1); clear hb1 p0 p1 p2 pl c0 cl; obtain ⟨⟨p0, p1, p2⟩, -, pl⟩ := block3 (unhide HP1))
      go_ret
      exact ⟨rfl, But.of_below (unhide HX1), fun h => by cases h⟩
    | false =>
      have hr := unhide HR3
      rw [if_neg (by simp)] at hr
      subst hr
      clear HR3
      go_wp2_with (first
        | (go_at_call 59; refine (unhide HH).mono ?_; rintro e w1 ⟨rfl, hb1⟩; have HX1 := hide (Below.next (unhide HX) hb1 (Nat.le_refl _)); have HP1 := hide (keep_below (unhide HP) hb1); have HS1 := hide ((unhide HS).below hb1); have HC1 := hide (keep_below (unhide HC) hb1); clear hb1 p0 p1 p2 pl c0 cl; obtain ⟨⟨p0, p1, p2⟩, -, pl⟩ := block3 (unhide HP1); obtain ⟨c0, -, cl⟩ := block1 (unhide HC1))
        | (go_at_call 60; refine (setadd_any _ M ks t (unhide HS1) (unhide HQ)).mono ?_; rintro e w2 ⟨rfl, e2⟩; have HE2 := hide e2; clear e2 p0 p1 p2 pl c0 cl))
      go_ret
      refine ⟨rfl, ?_, ?_⟩
      · rw [unhide HE2]
        exact (But.of_below (unhide HX1)).putObj _
      · (try intro _)
        rw [unhide HE2]
        exact ⟨IsSet.put (unhide HS1).lt, (heap_putObj _ (unhide HCM)).trans (unhide HC1)⟩
theorem enters_want : ∀ args w, (callFunc 64 args).run Try.prog w = .ok (.enter 64 args) w := fun _ _ => by kernel_rfl
end Go.Proofs.Ytpogcfdmkeebmaa
