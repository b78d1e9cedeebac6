/-
  LockAlone on lists: who is let in, and what holds then.
-/
import Derived.Test.YtdpcbmekplcllaaBe
namespace Go.Proofs.Ytdpcbmekplcllaa
open Go.RowKit

def kAt (ks : List Int) (t : Int) : Int := ks.getD t.toNat 0
/-- What the function 'let' makes of the kinds, and of 'enters'. -/
def letK : List Int → List Int → List Int
  | ks, [] => ks
  | ks, t :: l => letK (ks.set t.toNat (kAt ks t - 2)) l
def letE : Int → List Int → Int
  | e, [] => e
  | _, t :: l => letE t l
/-- Each of these is let in without a fault. -/
def okL (n : Nat) : List Int → Int → List Int → Prop
  | _, _, [] => True
  | ks, e, t :: l => (1 ≤ t ∧ t ≤ n ∧ 3 ≤ kAt ks t ∧ kAt ks t ≤ 4 ∧ e ≤ t) ∧ okL n (ks.set t.toNat (kAt ks t - 2)) t l

theorem letK_len : ∀ (l ks : List Int), (letK ks l).length = ks.length
  | [], _ => rfl
  | t :: l, ks => by unfold letK; rw [letK_len l]; simp

/-- So many have this kind. -/
def cnt (ks : List Int) (v : Int) : Nat := (ks.drop 1).count v
theorem cnt_le (ks : List Int) (v : Int) (n : Nat) (h : ks.length = n + 1) : cnt ks v ≤ n := by
  unfold cnt
  have := List.count_le_length (l := ks.drop 1) (a := v)
  rw [List.length_drop] at this
  omega
theorem cnt_set {ks : List Int} {n t : Nat} (h : ks.length = n + 1) (h1 : 1 ≤ t) (h2 : t ≤ n) (v x : Int) :
    (cnt (ks.set t x) v : Int) = cnt ks v - (if ks.getD t 0 = v then 1 else 0) + (if x = v then 1 else 0) := by
  obtain ⟨m, rfl⟩ : ∃ m, t = m + 1 := ⟨t - 1, by omega⟩
  cases ks with
  | nil => simp at h
  | cons y l =>
    unfold cnt
    simp only [List.set_cons_succ, List.drop_succ_cons, List.drop_zero, List.getD_cons_succ]
    have hm : m < l.length := by simp at h; omega
    rw [List.count_set hm]
    have hg : l.getD m 0 = l[m] := by simp [hm]
    rw [hg]
    by_cases hv : l[m] = v
    · have hp : 0 < l.count v := by
        rw [List.count_pos_iff, ← hv]
        exact List.getElem_mem hm
      rw [if_pos hv]
      by_cases hx : x = v <;> simp [hv, hx] <;> omega
    · rw [if_neg hv]
      by_cases hx : x = v <;> simp [hv, hx]
theorem kAt_set_eq {ks : List Int} {n : Nat} {t x : Int} (h : ks.length = n + 1) (_h1 : 0 ≤ t) (h2 : t ≤ n) : kAt (ks.set t.toNat x) t = x := by
  unfold kAt
  rw [List.getD_eq_getElem?_getD, List.getElem?_set_self (by omega)]
  rfl
theorem kAt_set_ne {ks : List Int} {t u x : Int} (h0 : 0 ≤ t) (h1 : 0 ≤ u) (h : t ≠ u) : kAt (ks.set t.toNat x) u = kAt ks u := by
  unfold kAt
  rw [List.getD_eq_getElem?_getD, List.getD_eq_getElem?_getD, List.getElem?_set_ne (by omega)]

/-- What holds behind i moves: the lock is fine; as many read and write as it tells; who waits has this kind, in the order of coming, none ahead of who came last. -/
structure Al (n i : Nat) (P : Lk) (ks : List Int) (e : Int) : Prop where
  len : ks.length = n + 1
  le : i ≤ n
  small : n ≤ 200
  good : GoodP P
  ll : P.line.length ≤ i
  later : ∀ t : Int, (i : Int) < t → kAt ks t = 0
  cr : (cnt ks 1 : Int) = P.readers
  cw : (cnt ks 2 : Int) = if P.writer = true then 1 else 0
  line : ∀ x ∈ P.line, e ≤ x.1 ∧ x.1 ≤ i ∧ kAt ks x.1 = (if x.2.1 = true then 4 else 3)
  up : (tasks P.line).Pairwise (· < ·)
  ei : e ≤ i

theorem al_zero {n : Nat} (h : n ≤ 200) : Al n 0 zeroL (List.replicate (n + 1) 0) 0 where
  len := by simp
  le := Nat.zero_le _
  small := h
  good := good_zero
  ll := Nat.le_refl _
  later := fun t _ => by
    unfold kAt
    by_cases hq : t.toNat < n + 1
    · simp [hq]
    · simp [hq]
  cr := by unfold cnt; simp [zeroL, List.count_replicate]
  cw := by unfold cnt; simp [zeroL, List.count_replicate]
  line := fun x hx => by cases hx
  up := List.Pairwise.nil
  ei := by decide

theorem al_adm {n i : Nat} (hi : i ≤ n) (hn : n ≤ 200) : ∀ (l : List Po) (r : Int) (wr : Bool) (ks : List Int) (e : Int), ks.length = n + 1 → l.length ≤ i →
    (∀ t : Int, (i : Int) < t → kAt ks t = 0) → (cnt ks 1 : Int) = r → (cnt ks 2 : Int) = (if wr = true then 1 else 0) → (wr = true → r = 0) →
    (∀ x ∈ l, 1 ≤ x.1 ∧ x.2.2 = 0 ∧ e ≤ x.1 ∧ x.1 ≤ i ∧ kAt ks x.1 = (if x.2.1 = true then 4 else 3)) → (tasks l).Pairwise (· < ·) → e ≤ i →
    okL n ks e (admR r wr l).2 ∧ Al n i (admR r wr l).1 (letK ks (admR r wr l).2) (letE e (admR r wr l).2)
  | [], r, wr, ks, e, h1, h2, h3, h4, h5, h6, h7, h8, h9 => by
    refine ⟨trivial, ?_⟩
    show Al n i ⟨r, wr, []⟩ ks e
    have := cnt_le ks 1 n h1
    exact ⟨h1, hi, hn, ⟨by simp, by show 0 ≤ r; omega, by show r ≤ 1000000000; omega, h6, rfl, fun x hx => (by cases hx), List.nodup_nil⟩, Nat.zero_le _, h3, h4, h5, fun x hx => (by cases hx), List.Pairwise.nil, h9⟩
  | (t, c, u) :: l, r, wr, ks, e, h1, h2, h3, h4, h5, h6, h7, h8, h9 => by
    obtain ⟨ht1, hu, het, hti, hk⟩ := h7 (t, c, u) (by simp)
    simp only at ht1 hu het hti hk
    subst hu
    have hq := h8
    unfold tasks at hq
    rw [List.map_cons, List.pairwise_cons] at hq
    have hcl := cnt_le ks 1 n h1
    by_cases hlet : lets r wr ((t, c, 0) :: l) = true
    · rw [admR_go hlet]
      obtain ⟨_, _, _, _, e0, hwr, hcr⟩ := lets_cons hlet
      cases e0
      subst hwr
      have htn : t ≤ n := by omega
      obtain ⟨T, rfl⟩ : ∃ T : Nat, t = (T : Int) := ⟨t.toNat, by omega⟩
      have hg : ks.getD T 0 = (if c = true then 4 else 3) := hk
      have s1 := cnt_set (ks := ks) (n := n) (t := T) h1 (by omega) (by omega) 1 (kAt ks T - 2)
      have s2 := cnt_set (ks := ks) (n := n) (t := T) h1 (by omega) (by omega) 2 (kAt ks T - 2)
      rw [hg, hk] at s1 s2
      have hx1 : (ks.set T (kAt ks T - 2)).length = n + 1 := by simpa using h1
      have hx3 : ∀ t : Int, (i : Int) < t → kAt (ks.set T (kAt ks T - 2)) t = 0 := fun t ht => by
        have h0 := kAt_set_ne (ks := ks) (t := (T : Int)) (u := t) (x := kAt ks T - 2) (by omega) (by omega) (by omega)
        rw [show ((T : Int)).toNat = T from rfl] at h0
        rw [h0]
        exact h3 t ht
      have hx7 : ∀ x ∈ l, 1 ≤ x.1 ∧ x.2.2 = 0 ∧ (T : Int) ≤ x.1 ∧ x.1 ≤ i ∧ kAt (ks.set T (kAt ks T - 2)) x.1 = (if x.2.1 = true then 4 else 3) := fun x hx => by
        obtain ⟨a1, a2, a3, a4, a5⟩ := h7 x (List.mem_cons_of_mem _ hx)
        have hlt : (T : Int) < x.1 := hq.1 x.1 (List.mem_map_of_mem hx)
        have h0 := kAt_set_ne (ks := ks) (t := (T : Int)) (u := x.1) (x := kAt ks T - 2) (by omega) (by omega) (by omega)
        rw [show ((T : Int)).toNat = T from rfl] at h0
        rw [h0]
        exact ⟨a1, a2, by omega, a4, a5⟩
      have hrec := al_adm hi hn l (if c = true then r else r + 1) (if c = true then true else false) (ks.set T (kAt ks T - 2)) T hx1 (by simp at h2; omega) hx3
        (by rw [hk, s1]; cases c <;> simp at * <;> omega) (by rw [hk, s2]; cases c <;> simp at * <;> omega) (by cases c <;> simp at * ; exact hcr) hx7 hq.2 (by omega)
      refine ⟨⟨⟨ht1, htn, ?_, ?_, het⟩, hrec.1⟩, hrec.2⟩
      · rw [hk]; cases c <;> simp
      · rw [hk]; cases c <;> simp
    · have hlf : lets r wr ((t, c, 0) :: l) = false := by simpa using hlet
      rw [admR_stay hlf]
      refine ⟨trivial, ?_⟩
      show Al n i ⟨r, wr, (t, c, 0) :: l⟩ ks e
      exact ⟨h1, hi, hn, ⟨Nat.le_trans h2 (by omega), by show 0 ≤ r; omega, by show r ≤ 1000000000; omega, h6, hlf, fun x hx => ⟨(h7 x hx).1, (h7 x hx).2.1⟩, h8.imp fun h => by omega⟩, h2, h3, h4, h5, fun x hx => (h7 x hx).2.2, h8, h9⟩

theorem al_step {n i : Nat} {P : Lk} {ks : List Int} {e : Int} (h : Al n i P ks e) (hi : i < n) : Al n (i + 1) P ks e :=
  ⟨h.len, hi, h.small, h.good, Nat.le_succ_of_le h.ll, fun t ht => h.later t (by omega), h.cr, h.cw, fun x hx => ⟨(h.line x hx).1, by have := (h.line x hx).2.1; omega, (h.line x hx).2.2⟩, h.up, by have := h.ei; omega⟩

/-- A task comes. -/
theorem al_enter {n i : Nat} {P : Lk} {ks : List Int} {e : Int} (h : Al n i P ks e) (hi : i < n) (wt : Bool) :
    (enterF P ((i : Int) + 1)).1 = 0 ∧
    (((enterR P ((i : Int) + 1) wt false).2 = true ∧ okL n (ks.set (i + 1) (if wt = true then 4 else 3)) e [(i : Int) + 1] ∧
        Al n (i + 1) (enterR P ((i : Int) + 1) wt false).1 (letK (ks.set (i + 1) (if wt = true then 4 else 3)) [(i : Int) + 1]) ((i : Int) + 1)) ∨
     ((enterR P ((i : Int) + 1) wt false).2 = false ∧ Al n (i + 1) (enterR P ((i : Int) + 1) wt false).1 (ks.set (i + 1) (if wt = true then 4 else 3)) e)) := by
  have hm : ((i : Int) + 1) ∉ tasks P.line := fun hx => by
    obtain ⟨x, hx, ex⟩ := List.mem_map.1 hx
    have := (h.line x hx).2.1
    omega
  have hsm := h.small
  have hlen := h.ll
  have hcl := cnt_le ks 1 n h.len
  have hcr := h.cr
  have hEF : enterF P ((i : Int) + 1) = (0, 0) := h.good.enter (by omega) hm (by omega) (by omega)
  refine ⟨by rw [hEF], ?_⟩
  have hz : ks.getD (i + 1) 0 = 0 := by
    have := h.later ((i + 1 : Nat) : Int) (by omega)
    exact this
  have s1 := cnt_set (ks := ks) (n := n) (t := i + 1) h.len (by omega) (by omega) 1 (if wt = true then 4 else 3)
  have s2 := cnt_set (ks := ks) (n := n) (t := i + 1) h.len (by omega) (by omega) 2 (if wt = true then 4 else 3)
  rw [hz] at s1 s2
  have c1 : (cnt (ks.set (i + 1) (if wt = true then 4 else 3)) 1 : Int) = P.readers := by rw [s1, ← hcr]; cases wt <;> simp
  have c2 : (cnt (ks.set (i + 1) (if wt = true then 4 else 3)) 2 : Int) = (if P.writer = true then 1 else 0) := by rw [s2, ← h.cw]; cases wt <;> simp
  have hk : kAt (ks.set (i + 1) (if wt = true then 4 else 3)) ((i : Int) + 1) = (if wt = true then 4 else 3) := by
    have := kAt_set_eq (ks := ks) (n := n) (t := ((i + 1 : Nat) : Int)) (x := (if wt = true then 4 else 3)) h.len (by omega) (by omega)
    exact this
  have hne : ∀ u : Int, 0 ≤ u → u ≠ (i : Int) + 1 → kAt (ks.set (i + 1) (if wt = true then 4 else 3)) u = kAt ks u := fun u h0 h1 => by
    have := kAt_set_ne (ks := ks) (t := ((i + 1 : Nat) : Int)) (u := u) (x := (if wt = true then 4 else 3)) (by omega) h0 (by omega)
    exact this
  have hwait : ∀ hl : lets P.readers P.writer (P.line ++ [((i : Int) + 1, wt, 0)]) = false, Al n (i + 1) ⟨P.readers, P.writer, P.line ++ [((i : Int) + 1, wt, 0)]⟩ (ks.set (i + 1) (if wt = true then 4 else 3)) e := fun hl => by
    have hei := h.ei
    refine ⟨by simpa using h.len, by omega, hsm, h.good.stays (by omega) hm (by omega) hl, by simp; omega, fun t ht => ?_, c1, c2, ?_, ?_, by omega⟩
    · rw [hne t (by omega) (by omega)]
      exact h.later t (by omega)
    · intro x hx
      rcases List.mem_append.1 hx with hx | hx
      · obtain ⟨a1, a2, a3⟩ := h.line x hx
        have := (h.good.each x hx).1
        exact ⟨a1, by omega, by rw [hne x.1 (by omega) (by omega)]; exact a3⟩
      · obtain rfl := List.mem_singleton.1 hx
        exact ⟨by show e ≤ (i : Int) + 1; omega, by show (i : Int) + 1 ≤ _; omega, hk⟩
    · rw [tasks_append, List.pairwise_append]
      refine ⟨h.up, List.pairwise_singleton _ _, fun a ha b hb => ?_⟩
      obtain ⟨x, hx, rfl⟩ := List.mem_map.1 ha
      have := (h.line x hx).2.1
      simp [tasks] at hb
      omega
  by_cases hlet : lets P.readers P.writer (P.line ++ [((i : Int) + 1, wt, 0)]) = true
  · have hnil : P.line = [] := by
      by_cases hq : P.line = []
      · exact hq
      · rw [lets_append hq, h.good.no] at hlet
        cases hlet
    obtain ⟨r, b, l⟩ := P
    simp only at hnil
    subst hnil
    rw [List.nil_append] at hlet
    rw [enterR_in hlet]
    obtain ⟨_, _, _, _, e0, hb, hcr0⟩ := lets_cons hlet
    cases e0
    simp only at hb c1 c2 hcr
    subst hb
    left
    have hei := h.ei
    have hok : 3 ≤ kAt (ks.set (i + 1) (if wt = true then 4 else 3)) ((i : Int) + 1) ∧ kAt (ks.set (i + 1) (if wt = true then 4 else 3)) ((i : Int) + 1) ≤ 4 := by rw [hk]; cases wt <;> decide
    refine ⟨rfl, ⟨⟨by omega, by omega, hok.1, hok.2, by omega⟩, trivial⟩, ?_⟩
    unfold letK letK
    rw [hk, show ((i : Int) + 1).toNat = i + 1 by omega]
    have hL : (ks.set (i + 1) (if wt = true then 4 else 3)).length = n + 1 := by simpa using h.len
    have t1 := cnt_set (ks := ks.set (i + 1) (if wt = true then 4 else 3)) (n := n) (t := i + 1) hL (by omega) (by omega) 1 ((if wt = true then 4 else 3) - 2)
    have t2 := cnt_set (ks := ks.set (i + 1) (if wt = true then 4 else 3)) (n := n) (t := i + 1) hL (by omega) (by omega) 2 ((if wt = true then 4 else 3) - 2)
    have hk' : (ks.set (i + 1) (if wt = true then 4 else 3)).getD (i + 1) 0 = (if wt = true then 4 else 3) := hk
    rw [hk'] at t1 t2
    have hcl2 := cnt_le ((ks.set (i + 1) (if wt = true then 4 else 3)).set (i + 1) ((if wt = true then 4 else 3) - 2)) 1 n (by simpa using h.len)
    have d1 : (cnt ((ks.set (i + 1) (if wt = true then 4 else 3)).set (i + 1) ((if wt = true then 4 else 3) - 2)) 1 : Int) = (if wt = true then r else r + 1) := by
      rw [t1, c1]; cases wt <;> simp
    have d2 : (cnt ((ks.set (i + 1) (if wt = true then 4 else 3)).set (i + 1) ((if wt = true then 4 else 3) - 2)) 2 : Int) = (if (if wt = true then true else false) = true then 1 else 0) := by
      rw [t2, c2]; cases wt <;> simp
    refine ⟨by simpa using h.len, by omega, hsm, ⟨by simp, ?_, ?_, ?_, ?_, fun x hx => (by cases hx), List.nodup_nil⟩, Nat.zero_le _, fun t ht => ?_, d1, d2, fun x hx => (by cases hx), List.Pairwise.nil, by omega⟩
    · show 0 ≤ (if wt = true then r else r + 1); omega
    · show (if wt = true then r else r + 1) ≤ 1000000000; omega
    · show (if wt = true then true else false) = true → (if wt = true then r else r + 1) = 0
      intro hw
      have hwt : wt = true := by cases wt <;> simp_all
      rw [if_pos hwt]
      exact hcr0 hwt
    · exact rfl
    · have := kAt_set_ne (ks := ks.set (i + 1) (if wt = true then 4 else 3)) (t := ((i + 1 : Nat) : Int)) (u := t) (x := (if wt = true then 4 else 3) - 2) (by omega) (by omega) (by omega)
      rw [show (((i + 1 : Nat) : Int)).toNat = i + 1 from rfl] at this
      rw [this, hne t (by omega) (by omega)]
      exact h.later t (by omega)
  · have hlf : lets P.readers P.writer (P.line ++ [((i : Int) + 1, wt, 0)]) = false := by simpa using hlet
    right
    rw [enterR_wait hlf]
    exact ⟨rfl, hwait hlf⟩

/-- There is one of this kind, or none. -/
theorem cnt_pos {ks : List Int} {n t : Nat} (h : ks.length = n + 1) (h1 : 1 ≤ t) (h2 : t ≤ n) {v : Int} (hv : ks.getD t 0 = v) : 0 < cnt ks v := by
  have := cnt_set (ks := ks) (n := n) (t := t) h h1 h2 v (v + 1)
  rw [if_pos hv, if_neg (by omega)] at this
  omega
theorem cnt_none {ks : List Int} {n : Nat} (h : ks.length = n + 1) {v : Int} (hv : ∀ t : Nat, 1 ≤ t → t ≤ n → ks.getD t 0 ≠ v) : cnt ks v = 0 := by
  unfold cnt
  rw [List.count_eq_zero]
  intro hm
  obtain ⟨j, hj, e⟩ := List.getElem_of_mem hm
  rw [List.length_drop] at hj
  rw [List.getElem_drop] at e
  refine hv (1 + j) (by omega) (by omega) ?_
  rw [← e]
  simp [show 1 + j < ks.length by omega]

/-- One who holds it leaves. -/
theorem al_leave {n i : Nat} {P : Lk} {ks : List Int} {e : Int} (h : Al n i P ks e) (wt : Bool) {t : Nat} (h1 : 1 ≤ t) (h2 : t ≤ n) (hk : ks.getD t 0 = (if wt = true then 2 else 1)) :
    (leaveR P wt).2 = false ∧ okL n (ks.set t 0) e (leaveR P wt).1.2 ∧ Al n i (leaveR P wt).1.1 (letK (ks.set t 0) (leaveR P wt).1.2) (letE e (leaveR P wt).1.2) := by
  have hp := cnt_pos h.len h1 h2 hk
  have s1 := cnt_set (ks := ks) (n := n) (t := t) h.len h1 h2 1 0
  have s2 := cnt_set (ks := ks) (n := n) (t := t) h.len h1 h2 2 0
  rw [hk] at s1 s2
  have hcr := h.cr
  have hcw := h.cw
  have hL : (ks.set t 0).length = n + 1 := by simpa using h.len
  have hwr := h.good.wr
  have hx3 : ∀ u : Int, (i : Int) < u → kAt (ks.set t 0) u = 0 := fun u hu => by
    by_cases hq : u = (t : Int)
    · subst hq
      exact kAt_set_eq (ks := ks) (n := n) (t := (t : Int)) (x := 0) h.len (by omega) (by omega)
    · have := kAt_set_ne (ks := ks) (t := (t : Int)) (u := u) (x := 0) (by omega) (by omega) (by omega)
      rw [show ((t : Int)).toNat = t from rfl] at this
      rw [this]
      exact h.later u hu
  have hx7 : ∀ x ∈ P.line, 1 ≤ x.1 ∧ x.2.2 = 0 ∧ e ≤ x.1 ∧ x.1 ≤ i ∧ kAt (ks.set t 0) x.1 = (if x.2.1 = true then 4 else 3) := fun x hx => by
    obtain ⟨a1, a2, a3⟩ := h.line x hx
    obtain ⟨b1, b2⟩ := h.good.each x hx
    refine ⟨b1, b2, a1, a2, ?_⟩
    have hq : (t : Int) ≠ x.1 := fun hq => by
      rw [← hq] at a3
      have : ks.getD t 0 = (if x.2.1 = true then 4 else 3) := a3
      rw [hk] at this
      cases wt <;> cases hb : x.2.1 <;> rw [hb] at this <;> simp at this
    have := kAt_set_ne (ks := ks) (t := (t : Int)) (u := x.1) (x := 0) (by omega) (by omega) hq
    rw [show ((t : Int)).toNat = t from rfl] at this
    rw [this]
    exact a3
  cases wt with
  | true =>
    simp at hk hp s1 s2
    have hw : P.writer = true := by
      cases hq : P.writer
      · rw [hq] at hcw; simp at hcw; omega
      · rfl
    rw [hw] at hcw
    simp at hcw
    have hr0 := hwr hw
    have he : leaveR P true = (admR P.readers false P.line, false) := by unfold leaveR; rw [if_pos ⟨rfl, hw⟩]
    rw [he]
    have := al_adm h.le h.small P.line P.readers false (ks.set t 0) e hL h.ll hx3 (by omega) (by simp; omega) (fun hb => by cases hb) hx7 h.up h.ei
    exact ⟨rfl, this.1, this.2⟩
  | false =>
    simp at hk hp s1 s2
    have hr : 0 < P.readers := by omega
    have hw : P.writer = false := by
      cases hq : P.writer
      · rfl
      · have := hwr hq; omega
    rw [hw] at hcw
    simp at hcw
    have he : leaveR P false = (admR (P.readers - 1) P.writer P.line, false) := by unfold leaveR; rw [if_neg (by simp), if_pos ⟨rfl, hr⟩]
    rw [he, hw]
    have := al_adm h.le h.small P.line (P.readers - 1) false (ks.set t 0) e hL h.ll hx3 (by omega) (by simp; omega) (fun hb => by cases hb) hx7 h.up h.ei
    exact ⟨rfl, this.1, this.2⟩
/-- Nobody holds it so. -/
theorem al_nobody {n i : Nat} {P : Lk} {ks : List Int} {e : Int} (h : Al n i P ks e) (wt : Bool) (hk : ∀ t : Nat, 1 ≤ t → t ≤ n → ks.getD t 0 ≠ (if wt = true then 2 else 1)) :
    (leaveR P wt).2 = true := by
  have h0 := cnt_none h.len hk
  have hcr := h.cr
  have hcw := h.cw
  cases wt with
  | true =>
    simp at h0
    rw [h0] at hcw
    have hw : P.writer = false := by
      cases hq : P.writer
      · rfl
      · rw [hq] at hcw; simp at hcw
    unfold leaveR
    rw [if_neg (by simp [hw]), if_neg (by simp)]
  | false =>
    simp at h0
    unfold leaveR
    rw [if_neg (by simp), if_neg (by omega)]
end Go.Proofs.Ytdpcbmekplcllaa
