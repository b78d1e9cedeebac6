/-
  law.own, law.vastHeap, law.ownHeap; slices.Clone.
-/
import Derived.Test.YtmkehjncnaokoaaR
namespace Go.Proofs.Ytmkehjncnaokoaa
open Go.RowKit

set_option maxRecDepth 100000 in
set_option maxHeartbeats 400000 in
theorem own_any (w : World) (v : Value) (xs : List Int) (hr : IsL KI w v xs) (hn : xs.length * 8 ≤ 140737488355328) :
    Calls Try.prog 23 #[v] w fun e w' => ∃ a' c', e = .returned (.slice a' xs.length c') ∧ Own KI w.heap.size w' (.slice a' xs.length c') xs ∧ Below w.heap.size w w' := by
  obtain ⟨a, c, rfl⟩ := hr.form
  have HR := hide hr
  clear hr
  go_enter Try.func23, Try.ntmps23
  go_wp2_with (at_builtin; refine wpList_append ki rfl (.const (.slice none 0 0)) (.tmp 3) rfl w.heap.size _ [] rfl (own_nil _ _) _ xs rfl (unhide HR) xs.length (by simp) hn (Nat.le_refl _) ?_; intro a' c' w1 ho hg; have HO := hide (own_nil_append ho); have HB := hide ((Below.refl w.heap.size w).grown hg (Nat.le_refl _) (fun k hk => by cases hk)); clear ho hg)
  go_ret
  exact ⟨a', c', rfl, unhide HO, unhide HB⟩

/-- More than is looked at? -/
def vastB (os : List (List Int)) (rs : List Int) : Bool := (os.any fun r => decide (1000 < r.length)) || (decide (1000 < os.length) || decide (1000 < rs.length))
theorem vast_yes {os : List (List Int)} {rs : List Int} {i : Nat} (hi : i < os.length) (h : 1000 < (os.getD i []).length) : vastB os rs = true := by
  unfold vastB
  have : (os.any fun r => decide (1000 < r.length)) = true := by
    rw [List.any_eq_true]
    refine ⟨os.getD i [], ?_, decide_eq_true h⟩
    rw [List.getD_eq_getElem?_getD, List.getElem?_eq_getElem hi]
    exact List.getElem_mem hi
  rw [this, Bool.true_or]
theorem vast_rows {os : List (List Int)} {rs : List Int} (h : ∀ i, i < os.length → ¬ 1000 < (os.getD i []).length) : vastB os rs = (decide (1000 < os.length) || decide (1000 < rs.length)) := by
  unfold vastB
  have : (os.any fun r => decide (1000 < r.length)) = false := by
    rw [List.any_eq_false]
    intro r hr
    obtain ⟨i, hi, e⟩ := List.getElem_of_mem hr
    have := h i hi
    rw [List.getD_eq_getElem?_getD, List.getElem?_eq_getElem hi] at this
    simp only [Option.getD_some] at this
    rw [← e]
    simpa using this
  rw [this, Bool.false_or]
theorem vast_no {os : List (List Int)} {rs : List Int} (h : vastB os rs = false) : (∀ i, i < os.length → (os.getD i []).length ≤ 1000) ∧ os.length ≤ 1000 ∧ rs.length ≤ 1000 := by
  have h1 : ∀ i, i < os.length → ¬ 1000 < (os.getD i []).length := fun i hi q => by rw [vast_yes hi q] at h; cases h
  have h2 := h
  rw [vast_rows h1, Bool.or_eq_false_iff, decide_eq_false_iff_not, decide_eq_false_iff_not] at h2
  exact ⟨fun i hi => Nat.le_of_not_lt (h1 i hi), by omega, by omega⟩

set_option maxRecDepth 100000 in
set_option maxHeartbeats 4000000 in
theorem vastHeap_any (w : World) (ao : Option Addr) (no co : Nat) (ar : Option Addr) (nr cr : Nat) (us : List Sl) (os : List (List Int)) (rs : List Int) (hO : IsLL w (.slice ao no co) us os) (hR : IsL KI w (.slice ar nr cr) rs) (hno : no ≤ 1000000000000000) :
    Calls Try.prog 9 #[.agg #[.slice ao no co, .slice ar nr cr]] w fun e w' => e = .returned (.bool (vastB os rs)) ∧ Below w.heap.size w w' := by
  have hol : os.length = no := by rw [← hO.len]; exact hO.row.len
  have hrn := hR.len
  have HX := hide ((Below.refl w.heap.size w).alloc (Nat.le_refl _) (.cells #[.slice ao no co, .slice ar nr cr] 25))
  have HH := hide (new_block w (.cells #[.slice ao no co, .slice ar nr cr] 25))
  obtain ⟨W1, e1⟩ : ∃ X, w.alloc (.cells #[.slice ao no co, .slice ar nr cr] 25) = X := ⟨_, rfl⟩
  rw [e1] at HX HH
  have HE1 := hide e1; have HO := hide hO; have HOL := hide hol; have HRN := hide hrn
  have HJ0 : Hid (∀ j, j < 0 → ¬ 1000 < (os.getD j []).length) := fun j hj => absurd hj (Nat.not_lt_zero _)
  clear e1 hO hR hol hrn
  go_enter Try.func9, Try.ntmps9
  go_upto_region 1 with fail
  rw [unhide HE1]
  clear HE1
  go_wp2_with fail
  go_loopw [3] (fun s wr => ∃ k : Nat, k ≤ no ∧ s = .int .i64 (k : Int) ∧ Hid (∀ j, j < k → ¬ 1000 < (os.getD j []).length) ∧ Hid (Below w.heap.size w wr) ∧ Hid (wr.heap[w.heap.size]? = some (.cells #[.slice ao no co, .slice ar nr cr] 25 (0, 0)))) (fun s _ => no - (intOf s).toNat)
  case atStart => exact ⟨0, Nat.zero_le _, rfl, HJ0, HX, HH⟩
  case round =>
    obtain ⟨k, hk, rfl, HJ, HXk, HHk⟩ := hrel
    clear HJ0 HX HH
    obtain ⟨b0, b1, bf0, bf1, bl⟩ := block2 (unhide HHk)
    by_cases hlt : k < no
    · have i4 : (0 : Int) ≤ (k : Int) := by omega
      have i5 : (k : Int) < (no : Int) := by omega
      have hw1 : IntKind.i64.wrap ((k : Int) + 1) = (k : Int) + 1 := wrapi (by omega) (by omega)
      have hko : k < os.length := by rw [unhide HOL]; exact hlt
      obtain ⟨ab, cb, hub, hrow⟩ := (unhide HO).at hko
      obtain ⟨b, o, rfl, hb, hli⟩ := (unhide HO).row.opens kl (unhide HO).row.len (by omega)
      have k0 := (hli.below (unhide HXk) hb).sls (j := k) (by rw [(unhide HO).row.len]; exact hlt)
      rw [hub] at k0
      obtain ⟨m, em⟩ : ∃ X, (os.getD k []).length = X := ⟨_, rfl⟩
      rw [em] at k0
      change wr.cell? ⟨b, o + k, none⟩ = some (.slice ab m cb) at k0
      have HEM := hide em; have HKO := hide hko
      clear hub hrow hli em hko
      by_cases h1 : 1000 < m
      · have j1 : (1000 : Int) < (m : Int) := by omega
        have HV : Hid (vastB os rs = true) := vast_yes (unhide HKO) (by rw [unhide HEM]; exact h1)
        go_wp2_with fail
        go_ret
        rw [unhide HV]
        exact ⟨rfl, unhide HXk⟩
      · have j1 : ¬ (1000 : Int) < (m : Int) := by omega
        have HJ2 : Hid (∀ j, j < k + 1 → ¬ 1000 < (os.getD j []).length) := fun j hj => by
          by_cases e : j = k
          · rw [e, unhide HEM]; exact h1
          · exact unhide HJ j (by omega)
        go_wp2_with fail
        go_roundw
        case rel => exact ⟨k + 1, by omega, by go_num, HJ2, HXk, HHk⟩
        case measure => simp [intOf]; omega
    · obtain rfl : k = no := by omega
      have i5 : ¬ (k : Int) < (k : Int) := by omega
      have HV : Hid (vastB os rs = (decide (1000 < k) || decide (1000 < nr))) := by
        show _ = _
        rw [vast_rows (fun i hi => unhide HJ i (by rw [← unhide HOL]; exact hi)), unhide HOL, unhide HRN]
      by_cases h1 : 1000 < k
      · have j1 : (1000 : Int) < (k : Int) := by omega
        rw [decide_eq_true h1, Bool.true_or] at HV
        go_wp2_with fail
        go_ret
        rw [unhide HV]
        exact ⟨rfl, unhide HXk⟩
      · have j1 : ¬ (1000 : Int) < (k : Int) := by omega
        rw [decide_eq_false h1, Bool.false_or] at HV
        by_cases h2 : 1000 < nr
        · have j2 : (1000 : Int) < (nr : Int) := by omega
          rw [decide_eq_true h2] at HV
          go_wp2_with fail
          go_ret
          rw [unhide HV]
          exact ⟨rfl, unhide HXk⟩
        · have j2 : ¬ (1000 : Int) < (nr : Int) := by omega
          rw [decide_eq_false h2] at HV
          go_wp2_with fail
          go_ret
          rw [unhide HV]
          exact ⟨rfl, unhide HXk⟩
end Go.Proofs.Ytmkehjncnaokoaa
