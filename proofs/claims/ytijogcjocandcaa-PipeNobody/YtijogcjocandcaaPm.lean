/-
  What is sent and got at a pipe, on lists.
-/
import Derived.Test.YtijogcjocandcaaPl
namespace Go.Proofs.Ytijogcjocandcaa
open Go.RowKit

/-- What is got by those who are woken. -/
def gotW (ws : List Wk) : List Int := (ws.filter (fun x => x.2.2.2.1)).map (fun x => x.2.2.1)
/-- What those who are woken without a value have sent. -/
def sentW (ws : List Wk) : List Int := (ws.filter (fun x => !x.2.2.2.1)).map (fun x => x.1 - 1)
def vals (l : List Po) : List Int := l.map (fun p => p.2.2)

/-- What holds of a pipe, what was sent and what was got, ahead of the move i. -/
structure Inv (i : Nat) (cap : Int) (sent got : List Int) (P : Pp) : Prop where
  good : Good P
  ecap : P.cap = cap
  task : ∀ p ∈ P.ss ++ P.gs, p.1 ≤ i
  val : ∀ p ∈ P.ss, p.2.2 = p.1 - 1
  cnt : countP P ≤ i
  eq : sent = got ++ P.items
  inc : (sent ++ vals P.ss).Pairwise (· < ·)
  lt : ∀ y ∈ sent ++ vals P.ss, y < (i : Int)
  len : sent.length + P.ss.length ≤ i

theorem inv_zero {cap : Int} (h0 : 0 ≤ cap) (h1 : cap ≤ 50) : Inv 0 cap [] [] ⟨cap, [], false, [], []⟩ :=
  ⟨⟨by simp [countP], h0, by show cap ≤ 1000; omega, by simpa using h0, fun h => absurd h (by simp), fun h => absurd h (by simp), fun p hp => by simp at hp, by simp [tasks], fun p hp => by simp at hp⟩, rfl, fun p hp => by simp at hp, fun p hp => by simp at hp, by simp [countP], rfl, by simp [vals], fun y hy => by simp [vals] at hy, by simp⟩
theorem inv_task {i : Nat} {cap : Int} {sent got : List Int} {P : Pp} (h : Inv i cap sent got P) (hi : i < 300) : taskF P ((i : Int) + 1) = (0, 0) := by
  refine task_iff.2 ⟨h.good, by omega, ?_, by have := h.cnt; omega⟩
  unfold waitsL
  rw [Bool.or_eq_false_iff]
  constructor
  · refine List.any_eq_false.2 fun p hp e => ?_
    have := h.task p (List.mem_append_left _ hp)
    unfold isOfP at e
    simp only [beq_iff_eq] at e
    omega
  · refine List.any_eq_false.2 fun p hp e => ?_
    have := h.task p (List.mem_append_right _ hp)
    unfold isOfP at e
    simp only [beq_iff_eq] at e
    omega
theorem inv_next {i : Nat} {cap : Int} {sent got : List Int} {P : Pp} (h : Inv i cap sent got P) : Inv (i + 1) cap sent got P := by
  obtain ⟨h1, h2, h3, h4, h5, h6, h7, h8, h9⟩ := h
  exact ⟨h1, h2, fun p hp => by have := h3 p hp; omega, h4, by omega, h6, h7, fun y hy => by have := h8 y hy; omega, by omega⟩
theorem pair_last {l : List Int} {i : Int} (h : l.Pairwise (· < ·)) (hl : ∀ y ∈ l, y < i) : (l ++ [i]).Pairwise (· < ·) := by
  rw [List.pairwise_append]
  exact ⟨h, by simp, fun a ha b hb => by have := hl a ha; simp only [List.mem_singleton] at hb; omega⟩

/-- What a Send that is done adds to what was sent. -/
def sentA (i : Int) (A : An) : List Int := if A.done = true ∧ A.panic = false then [i] else []
theorem inv_send {i : Nat} {cap : Int} {sent got : List Int} {P : Pp} {t : Bool} (h : Inv i cap sent got P) (hi : i < 300) :
    Inv (i + 1) cap (sent ++ sentA i (sendL P ((i : Int) + 1, 0, i) t).2) (got ++ gotW (sendL P ((i : Int) + 1, 0, i) t).2.wakes) (sendL P ((i : Int) + 1, 0, i) t).1 := by
  have hgood := good_send (u := (i : Int)) (try_ := t) (inv_task h hi)
  have hn := inv_next h
  obtain ⟨h1, h2, h3, h4, h5, h6, h7, h8, h9⟩ := h
  obtain ⟨n1, n2, n3, n4, n5, n6, n7, n8, n9⟩ := hn
  obtain ⟨pcap, items, closed, ss, gs⟩ := P
  simp only at *
  unfold sendL sentL at hgood ⊢
  simp only at hgood ⊢
  unfold countP at h5
  simp only at h5
  cases closed with
  | true =>
    simp only [if_true] at hgood ⊢
    have e : sentA i (⟨true, true, false, 0, 0, []⟩ : An) = [] := by unfold sentA; simp
    rw [e]
    simp only [gotW, List.filter_nil, List.map_nil, List.append_nil]
    exact ⟨n1, n2, n3, n4, n5, n6, n7, n8, n9⟩
  | false =>
    by_cases hg : 0 < gs.length
    · have hs : ss = [] := nil_of (fun hs => by have := (h1.send hs).2.2; simp only at this; rw [this] at hg; simp at hg)
      have hit : items = [] := (h1.get hg).2
      subst hs
      subst hit
      simp only [Bool.false_eq_true, if_false, if_pos hg, if_true] at hgood ⊢
      have e : sentA i (⟨true, false, false, 0, 0, [((pAt gs 0).1, (pAt gs 0).2.1, (i : Int), true, false)]⟩ : An) = [(i : Int)] := by unfold sentA; simp
      rw [e]
      have e2 : gotW [((pAt gs 0).1, (pAt gs 0).2.1, (i : Int), true, false)] = [(i : Int)] := rfl
      rw [e2]
      simp only [vals, List.map_nil, List.append_nil] at h6 h7 h8 ⊢
      refine ⟨hgood, h2, fun p hp => n3 p ?_, n4, ?_, ?_, ?_, ?_, ?_⟩
      · simp only [List.nil_append] at hp ⊢
        exact List.mem_of_mem_drop hp
      · unfold countP; simp only [List.length_drop, List.length_nil]; simp only [List.length_nil] at h5; omega
      · simp only [List.append_nil]; rw [h6]
      · simp only [vals, List.map_nil, List.append_nil]; exact pair_last h7 h8
      · simp only [vals, List.map_nil, List.append_nil]
        intro y hy
        rcases List.mem_append.1 hy with hy | hy
        · have := h8 y hy; omega
        · simp only [List.mem_singleton] at hy; omega
      · simp only [List.length_append, List.length_cons, List.length_nil]; omega
    · by_cases hr : (items.length : Int) < pcap
      · have hs : ss = [] := nil_of (fun hs => by have := (h1.send hs).2.1; simp only at this; omega)
        subst hs
        simp only [Bool.false_eq_true, if_false, if_neg hg, if_pos hr, if_true] at hgood ⊢
        have e : sentA i (⟨true, false, false, 0, 0, []⟩ : An) = [(i : Int)] := by unfold sentA; simp
        rw [e]
        simp only [gotW, List.filter_nil, List.map_nil, List.append_nil]
        simp only [vals, List.map_nil, List.append_nil] at h7 h8
        refine ⟨hgood, h2, n3, n4, ?_, ?_, ?_, ?_, ?_⟩
        · unfold countP; simp only [List.length_append, List.length_cons, List.length_nil]; simp only [List.length_nil] at h5; omega
        · rw [h6, List.append_assoc]
        · simp only [vals, List.map_nil, List.append_nil]; exact pair_last h7 h8
        · simp only [vals, List.map_nil, List.append_nil]
          intro y hy
          rcases List.mem_append.1 hy with hy | hy
          · have := h8 y hy; omega
          · simp only [List.mem_singleton] at hy; omega
        · simp only [List.length_append, List.length_cons, List.length_nil]; omega
      · simp only [Bool.false_eq_true, if_false, if_neg hg, if_neg hr] at hgood ⊢
        have e0 : zeroA.done = false := rfl
        simp only [e0, Bool.false_eq_true, if_false] at hgood ⊢
        have e : sentA i zeroA = [] := rfl
        cases t with
        | true =>
          simp only [if_true] at hgood ⊢
          rw [e]
          have e2 : gotW zeroA.wakes = [] := rfl
          rw [e2, List.append_nil, List.append_nil]
          exact ⟨n1, n2, n3, n4, n5, n6, n7, n8, n9⟩
        | false =>
          simp only [Bool.false_eq_true, if_false] at hgood ⊢
          rw [e]
          have e2 : gotW zeroA.wakes = [] := rfl
          rw [e2, List.append_nil, List.append_nil]
          have hv : vals (ss ++ [((i : Int) + 1, 0, (i : Int))]) = vals ss ++ [(i : Int)] := by simp [vals]
          refine ⟨hgood, h2, fun p hp => ?_, fun p hp => ?_, ?_, h6, ?_, ?_, by simp only [List.length_append, List.length_cons, List.length_nil]; omega⟩
          · simp only [List.mem_append, List.mem_singleton] at hp
            rcases hp with (hp | rfl) | hp
            · exact n3 p (List.mem_append_left _ hp)
            · simp only; omega
            · exact n3 p (List.mem_append_right _ hp)
          · simp only [List.mem_append, List.mem_singleton] at hp
            rcases hp with hp | rfl
            · exact h4 p hp
            · simp only; omega
          · unfold countP; simp only [List.length_append, List.length_cons, List.length_nil]; omega
          · simp only [hv]; rw [← List.append_assoc]; exact pair_last h7 h8
          · simp only [hv]
            intro y hy
            rw [← List.append_assoc] at hy
            rcases List.mem_append.1 hy with hy | hy
            · have := h8 y hy; omega
            · simp only [List.mem_singleton] at hy; omega

/-- What a Get that is done adds to what was got. -/
def gotA (A : An) : List Int := if A.done = true ∧ A.ok = true then [A.value] else []
theorem inv_get {i : Nat} {cap : Int} {sent got : List Int} {P : Pp} {t : Bool} (h : Inv i cap sent got P) (hi : i < 300) :
    Inv (i + 1) cap (sent ++ sentW (getL P ((i : Int) + 1, 0, 0) t).2.wakes) (got ++ gotA (getL P ((i : Int) + 1, 0, 0) t).2 ++ gotW (getL P ((i : Int) + 1, 0, 0) t).2.wakes) (getL P ((i : Int) + 1, 0, 0) t).1 := by
  have hgood := good_get (try_ := t) (inv_task h hi)
  have hn := inv_next h
  obtain ⟨h1, h2, h3, h4, h5, h6, h7, h8, h9⟩ := h
  obtain ⟨n1, n2, n3, n4, n5, n6, n7, n8, n9⟩ := hn
  obtain ⟨pcap, items, closed, ss, gs⟩ := P
  simp only at *
  unfold countP at h5
  simp only at h5
  by_cases hz : 0 < items.length + ss.length
  · have hT : takenL ⟨pcap, items, closed, ss, gs⟩ = firstL ⟨pcap, items, closed, ss, gs⟩ := by unfold takenL; simp only [if_pos hz]
    have hG : getL ⟨pcap, items, closed, ss, gs⟩ ((i : Int) + 1, 0, 0) t = firstL ⟨pcap, items, closed, ss, gs⟩ := by unfold getL; rw [hT, if_pos (firstL_done _)]
    rw [hG] at hgood ⊢
    unfold firstL at hgood ⊢
    simp only at hgood ⊢
    by_cases hs : 0 < ss.length
    · simp only [if_pos hs] at hgood ⊢
      cases ss with
      | nil => simp at hs
      | cons q r =>
        obtain ⟨t0, c0, v0⟩ := q
        have hg0 : gs = [] := (h1.send hs).2.2
        subst hg0
        have hv0 : v0 = t0 - 1 := h4 (t0, c0, v0) (by simp)
        have ep : pAt ((t0, c0, v0) :: r) 0 = (t0, c0, v0) := rfl
        simp only [ep] at hgood ⊢
        have e1 : sentW [(t0, c0, 0, false, false)] = [v0] := by rw [hv0]; rfl
        have e2 : gotW [(t0, c0, 0, false, false)] = [] := rfl
        have e3 : ∀ x : Int, ∀ l : List Wk, gotA (⟨true, false, true, x, 0, l⟩ : An) = [x] := fun _ _ => rfl
        rw [e1, e2, e3, List.append_nil]
        have hv : vals ((t0, c0, v0) :: r) = v0 :: vals r := rfl
        rw [hv] at h7 h8
        refine ⟨hgood, h2, fun p hp => ?_, fun p hp => ?_, ?_, ?_, ?_, ?_, ?_⟩
        · simp only [List.drop_succ_cons, List.drop_zero, List.append_nil] at hp
          exact n3 p (by simp [hp])
        · simp only [List.drop_succ_cons, List.drop_zero] at hp
          exact h4 p (by simp [hp])
        · unfold countP; simp only [List.length_drop, List.length_append, List.length_cons, List.length_nil]; simp only [List.length_cons, List.length_nil] at h5; omega
        · rw [h6]
          cases items with
          | nil => simp
          | cons y l => simp
        · simp only [List.drop_succ_cons, List.drop_zero]; rw [List.append_assoc]; exact h7
        · simp only [List.drop_succ_cons, List.drop_zero]
          intro y hy
          rw [List.append_assoc] at hy
          have := h8 y hy
          omega
        · simp only [List.length_append, List.length_cons, List.length_nil, List.drop_succ_cons, List.drop_zero]; simp only [List.length_cons] at h9; omega
    · have hs0 : ss = [] := nil_of hs
      subst hs0
      simp only [if_neg hs] at hgood ⊢
      have e1 : sentW ([] : List Wk) = [] := rfl
      have e2 : gotW ([] : List Wk) = [] := rfl
      have e3 : ∀ x : Int, ∀ l : List Wk, gotA (⟨true, false, true, x, 0, l⟩ : An) = [x] := fun _ _ => rfl
      rw [e1, e2, e3, List.append_nil, List.append_nil]
      refine ⟨hgood, h2, n3, n4, ?_, ?_, n7, n8, n9⟩
      · unfold countP; simp only [List.length_drop, List.length_nil]; simp only [List.length_nil] at h5; omega
      · rw [h6]
        cases items with
        | nil => simp at hz
        | cons y l => simp
  · have hT : takenL ⟨pcap, items, closed, ss, gs⟩ = if closed = true then (⟨pcap, items, closed, ss, gs⟩, ⟨true, false, false, 0, 0, []⟩) else (⟨pcap, items, closed, ss, gs⟩, zeroA) := by unfold takenL; simp only [if_neg hz]
    unfold getL at hgood ⊢
    rw [hT] at hgood ⊢
    have e1 : sentW ([] : List Wk) = [] := rfl
    have e2 : gotW ([] : List Wk) = [] := rfl
    cases closed with
    | true =>
      simp only [if_true] at hgood ⊢
      have e3 : gotA (⟨true, false, false, 0, 0, []⟩ : An) = [] := rfl
      rw [e1, e2, e3, List.append_nil, List.append_nil, List.append_nil]
      exact ⟨n1, n2, n3, n4, n5, n6, n7, n8, n9⟩
    | false =>
      have e0 : zeroA.done = false := rfl
      have ew : zeroA.wakes = [] := rfl
      have e3 : gotA zeroA = [] := rfl
      simp only [Bool.false_eq_true, if_false, e0] at hgood ⊢
      cases t with
      | true =>
        simp only [if_true] at hgood ⊢
        rw [ew, e1, e2, e3, List.append_nil, List.append_nil, List.append_nil]
        exact ⟨n1, n2, n3, n4, n5, n6, n7, n8, n9⟩
      | false =>
        simp only [Bool.false_eq_true, if_false] at hgood ⊢
        rw [ew, e1, e2, e3, List.append_nil, List.append_nil, List.append_nil]
        refine ⟨hgood, h2, fun p hp => ?_, n4, ?_, n6, n7, n8, n9⟩
        · simp only [List.mem_append, List.mem_singleton] at hp
          rcases hp with hp | hp | rfl
          · exact n3 p (List.mem_append_left _ hp)
          · exact n3 p (List.mem_append_right _ hp)
          · simp only; omega
        · unfold countP; simp only [List.length_append, List.length_cons, List.length_nil]; omega
theorem inv_shut {i : Nat} {cap : Int} {sent got : List Int} {P : Pp} (h : Inv i cap sent got P) :
    Inv (i + 1) cap sent (got ++ gotW (shutL P).2.wakes) (shutL P).1 := by
  have hgood := good_shut h.good
  have hn := inv_next h
  obtain ⟨h1, h2, h3, h4, h5, h6, h7, h8, h9⟩ := h
  have hw : gotW (shutL P).2.wakes = [] := by
    unfold shutL
    split
    · rfl
    · unfold gotW
      rw [List.filter_eq_nil_iff.2 fun x hx => ?_]
      · rfl
      · simp only [List.mem_append, List.mem_map] at hx
        rcases hx with ⟨y, _, rfl⟩ | ⟨y, _, rfl⟩ <;> simp [wkG, wkS]
  rw [hw, List.append_nil]
  unfold shutL at hgood ⊢
  split
  · exact hn
  · rename_i hc
    rw [if_neg hc] at hgood
    unfold countP at h5
    refine ⟨hgood, h2, fun p hp => by simp at hp, fun p hp => by simp at hp, ?_, h6, ?_, fun y hy => ?_, by simp only [List.length_nil]; omega⟩
    · unfold countP; simp only [List.length_nil]; omega
    · simp only [vals, List.map_nil, List.append_nil]
      exact (List.pairwise_append.1 h7).1
    · simp only [vals, List.map_nil, List.append_nil] at hy
      have := h8 y (List.mem_append_left _ hy)
      omega
end Go.Proofs.Ytijogcjocandcaa
