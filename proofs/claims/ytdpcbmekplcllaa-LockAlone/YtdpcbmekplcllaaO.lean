/-
  Locks of which nothing is wrong; what an Enter and a Leave make of them; rows that are built whole.
-/
import Derived.Test.YtdpcbmekplcllaaM
namespace Go.Proofs.Ytdpcbmekplcllaa
open Go.RowKit

theorem isl_built {α : Type} {K : Kind α} (hK : K.Ok) {w : World} {S : Nat} {xs : List α} (h : w.heap[S]? = some (.cells (xs.flatMap K.f).toArray K.e)) : IsL K w (.slice (some ⟨S, 0, none⟩) xs.length xs.length) xs := by
  refine ⟨⟨flat_length hK xs, Or.inr ⟨_, _, rfl, fun j u hj => ?_⟩⟩, fits_of (Nat.le_refl _)⟩
  rw [WideShapes.add_plain]
  simp only [World.cell?, h]
  simpa using hj

theorem any_isOf (l : List Po) (x : Int) : (l.any (isOfP x) = true) ↔ x ∈ tasks l := by
  unfold tasks isOfP
  simp only [List.any_eq_true, beq_iff_eq, List.mem_map]
theorem lineC_ok {pre : List Int} {l : List Po} {i : Int} (h : ∀ x ∈ l, 1 ≤ x.1 ∧ x.2.2 = 0 ∧ x.1 ∉ pre) (hd : (tasks l).Nodup) : lineC pre l i = (0, 0) := by
  induction l generalizing pre i with
  | nil => rfl
  | cons x l ih =>
    obtain ⟨h1, h2, h3⟩ := h x List.mem_cons_self
    have hw : wantC pre x = 0 := by
      unfold wantC
      rw [if_neg (by omega), if_neg (by simpa using h3), if_neg (by simpa using h2)]
    rw [lineC_go hw]
    have hd' : x.1 ∉ tasks l ∧ (tasks l).Nodup := List.nodup_cons.1 hd
    refine ih (fun y hy => ?_) hd'.2
    obtain ⟨g1, g2, g3⟩ := h y (List.mem_cons_of_mem _ hy)
    refine ⟨g1, g2, fun hm => ?_⟩
    rw [List.mem_append] at hm
    rcases hm with hm | hm
    · exact g3 hm
    · rw [List.mem_singleton] at hm
      exact hd'.1 (by rw [← hm]; exact List.mem_map_of_mem hy)
theorem lineC_good {pre : List Int} {l : List Po} {i : Int} (h : lineC pre l i = (0, 0)) : (∀ x ∈ l, 1 ≤ x.1 ∧ x.2.2 = 0 ∧ x.1 ∉ pre) ∧ (tasks l).Nodup := by
  induction l generalizing pre i with
  | nil => exact ⟨fun x hx => (by cases hx), List.nodup_nil⟩
  | cons x l ih =>
    have hw : wantC pre x = 0 := by
      by_cases hd : wantC pre x = 0
      · exact hd
      · rw [lineC_stop rfl hd] at h
        injection h
    rw [lineC_go hw] at h
    obtain ⟨h1, h2⟩ := ih h
    have hw2 := hw
    unfold wantC at hw2
    have a1 : ¬ x.1 < 1 := fun ha => by rw [if_pos ha] at hw2; cases hw2
    rw [if_neg a1] at hw2
    have a2 : ¬ pre.contains x.1 = true := fun ha => by rw [if_pos ha] at hw2; cases hw2
    rw [if_neg a2] at hw2
    have a3 : ¬ x.2.2 ≠ 0 := fun ha => by rw [if_pos ha] at hw2; cases hw2
    refine ⟨fun y hy => ?_, ?_⟩
    · rcases List.mem_cons.1 hy with rfl | hy
      · exact ⟨by omega, by omega, by simpa using a2⟩
      · obtain ⟨g1, g2, g3⟩ := h1 y hy
        exact ⟨g1, g2, fun hm => g3 (List.mem_append.2 (Or.inl hm))⟩
    · refine List.nodup_cons.2 ⟨fun hm => ?_, h2⟩
      obtain ⟨y, hy, e⟩ := List.mem_map.1 hm
      exact (h1 y hy).2.2 (List.mem_append.2 (Or.inr (by rw [e]; exact List.mem_singleton.2 rfl)))

/-- Nothing is wrong with the lock. -/
structure GoodP (P : Lk) : Prop where
  len : P.line.length ≤ 5000
  r0 : 0 ≤ P.readers
  r1 : P.readers ≤ 1000000000
  wr : P.writer = true → P.readers = 0
  no : lets P.readers P.writer P.line = false
  each : ∀ x ∈ P.line, 1 ≤ x.1 ∧ x.2.2 = 0
  once : (tasks P.line).Nodup
theorem good_of {P : Lk} (h : (lockF P).1 = 0) : GoodP P := by
  obtain ⟨h1, h2, h3, h4, h5, h6⟩ := lockF_good h
  obtain ⟨g1, g2⟩ := lineC_good h6
  exact ⟨h1, h2, h3, h4, h5, fun x hx => ⟨(g1 x hx).1, (g1 x hx).2.1⟩, g2⟩
theorem GoodP.fault {P : Lk} (h : GoodP P) : lockF P = (0, 0) := by
  have hw : wholeC P.readers P.writer P.line = 0 := by
    have h1 := h.len; have h2 := h.r0; have h3 := h.r1
    unfold wholeC
    rw [if_neg (by omega), if_neg (by omega), if_neg]
    rintro (⟨hb, hr⟩ | hl)
    · have := h.wr hb
      omega
    · rw [h.no] at hl
      cases hl
  unfold lockF
  rw [if_neg (by simpa using hw)]
  exact lineC_ok (fun x hx => ⟨(h.each x hx).1, (h.each x hx).2, by simp⟩) h.once
theorem GoodP.zero {P : Lk} (h : GoodP P) : (lockF P).1 = 0 := by rw [h.fault]
theorem GoodP.enter {P : Lk} (h : GoodP P) {x : Int} (hx : 1 ≤ x) (hm : x ∉ tasks P.line) (hl : P.line.length < 5000) (hr : P.readers < 1000000000) : enterF P x = (0, 0) := by
  unfold enterF
  rw [if_neg (by simp [h.fault]), if_neg (by omega), if_neg (fun hc => hm ((any_isOf _ _).1 hc)), if_neg (by omega)]

theorem lets_true (r : Int) (l : List Po) : lets r true l = false := by cases l <;> rfl
theorem lets_append {r : Int} {b : Bool} {l : List Po} (h : l ≠ []) (m : List Po) : lets r b (l ++ m) = lets r b l := by
  cases l with
  | nil => exact absurd rfl h
  | cons x l => rfl
theorem enterR_in {r : Int} {b : Bool} {x : Int} {wt : Bool} (hlet : lets r b [(x, wt, 0)] = true) (try_ : Bool) : enterR ⟨r, b, []⟩ x wt try_ = (⟨if wt = true then r else r + 1, if wt = true then true else b, []⟩, true) := by
  have e : admR r b [(x, wt, 0)] = (⟨if wt = true then r else r + 1, if wt = true then true else b, []⟩, [x]) := by
    rw [admR_go hlet]
    rfl
  unfold enterR
  simp only [List.nil_append]
  rw [e]
  simp
theorem enterR_wait {P : Lk} {x : Int} {wt : Bool} (hlet : lets P.readers P.writer (P.line ++ [(x, wt, 0)]) = false) : enterR P x wt false = (⟨P.readers, P.writer, P.line ++ [(x, wt, 0)]⟩, false) := by
  unfold enterR
  rw [admR_stay hlet]
  simp [isOfP]
theorem GoodP.stays {P : Lk} (h : GoodP P) {x : Int} {wt : Bool} (hx : 1 ≤ x) (hm : x ∉ tasks P.line) (hl : P.line.length < 5000) (hlet : lets P.readers P.writer (P.line ++ [(x, wt, 0)]) = false) : GoodP ⟨P.readers, P.writer, P.line ++ [(x, wt, 0)]⟩ := by
  refine ⟨?_, h.r0, h.r1, h.wr, hlet, fun y hy => ?_, ?_⟩
  · simp only [List.length_append, List.length_cons, List.length_nil]
    omega
  · rcases List.mem_append.1 hy with hy | hy
    · exact h.each y hy
    · rw [List.mem_singleton] at hy
      subst hy
      exact ⟨hx, rfl⟩
  · have e : tasks (P.line ++ [(x, wt, 0)]) = tasks P.line ++ [x] := by rw [tasks_append]; rfl
    simp only [e]
    rw [List.nodup_append]
    refine ⟨h.once, by simp, fun a ha b hb => ?_⟩
    rw [List.mem_singleton] at hb
    subst hb
    rintro rfl
    exact hm ha
theorem good_zero : GoodP zeroL := ⟨by decide, by decide, by decide, fun h => (by cases h), rfl, fun x hx => (by cases hx), List.nodup_nil⟩

theorem noLock_any (w : World) (v : Value) (h : IsLock w v zeroL) :
    Calls Try.prog 16 #[v] w fun e w' => e = .returned (.bool true) ∧ Below w.heap.size w w' := by
  have HS : Hid (∀ W, Below w.heap.size w W → Calls Try.prog 13 #[v, .agg #[.int .i64 0, .bool false, .slice none 0 0]] W fun e w' => e = .returned (.bool true) ∧ Below W.heap.size W w') := fun W hW => sameLock_any W _ _ zeroL (h.below hW) (zero_lock W) (by decide)
  obtain ⟨a0, c0, rfl, -⟩ := h.form
  simp only [zeroL, List.length_nil] at HS ⊢
  clear h
  go_enter Try.func16, Try.ntmps16
  go_wp2_with (go_at_call 13; refine (unhide HS _ ((Below.refl w.heap.size w).alloc (Nat.le_refl _) _)).mono ?_; rintro e w1 ⟨rfl, hb1⟩; have HX1 := hide (Below.next ((Below.refl w.heap.size w).alloc (Nat.le_refl _) _) hb1 (Nat.le_refl _)); clear hb1)
  go_ret
  exact ⟨rfl, unhide HX1⟩
end Go.Proofs.Ytdpcbmekplcllaa
