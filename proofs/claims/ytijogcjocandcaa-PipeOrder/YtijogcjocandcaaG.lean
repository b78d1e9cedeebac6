/-
  pipe.checkPosts, taskmillref.WaitsAt.
-/
import Derived.Test.YtijogcjocandcaaF
namespace Go.Proofs.Ytijogcjocandcaa
open Go.RowKit

/-- All blocks but g are as they were. -/
structure But (g : Nat) (w w' : World) : Prop where
  os : w'.os = w.os
  tape : w'.tape = w.tape
  output : w'.output = w.output
  size : w.heap.size ≤ w'.heap.size
  block : ∀ k, k < w.heap.size → k ≠ g → w'.heap[k]? = w.heap[k]?
theorem But.refl (g : Nat) (w : World) : But g w w := ⟨rfl, rfl, rfl, Nat.le_refl _, fun _ _ _ => rfl⟩
theorem But.trans {g : Nat} {a b c : World} (h : But g a b) (k : But g b c) : But g a c :=
  ⟨k.os.trans h.os, k.tape.trans h.tape, k.output.trans h.output, Nat.le_trans h.size k.size, fun i hi hg => (k.block i (Nat.lt_of_lt_of_le hi h.size) hg).trans (h.block i hi hg)⟩
theorem But.of_below {g : Nat} {w w' : World} (h : Below w.heap.size w w') : But g w w' := ⟨h.os, h.tape, h.output, h.size, fun k hk _ => h.block k hk⟩
theorem But.call {g : Nat} {a b c : World} (h : But g a b) (k : Below b.heap.size b c) : But g a c := h.trans (But.of_below k)
theorem But.putObj {g : Nat} {a b : World} (h : But g a b) (o : Obj) : But g a (putObj b g o) := by
  refine h.trans ⟨rfl, rfl, rfl, Nat.le_of_eq size_putObj.symm, fun k _ hg => heap_putObj k hg⟩
theorem But.below {g B : Nat} {w w' : World} (h : But g w w') (hB : B ≤ g) (hs : B ≤ w.heap.size) : Below B w w' := ⟨h.os, h.tape, h.output, h.size, fun k hk => h.block k (by omega) (by omega)⟩

theorem Lies.but {α : Type} {K : Kind α} {w w' : World} {b off g : Nat} {xs : List α} (h : Lies K w b off xs) (hb : But g w w') (hl : b < w.heap.size) (hg : b ≠ g) : Lies K w' b off xs := h.keep (hb.block b hl hg)

def tasks (xs : List Po) : List Int := xs.map (fun p => p.1)
theorem tasks_append (a b : List Po) : tasks (a ++ b) = tasks a ++ tasks b := List.map_append
/-- What is wrong with posts, behind tasks that were seen. -/
def postsC (pre : List Int) : List Po → Int
  | [] => 0
  | p :: r => if p.1 < 1 ∨ p.2.1 < 0 then 3 else if pre.contains p.1 = true then 10 else postsC (pre ++ [p.1]) r

theorem drop_at {xs : List Po} {j : Nat} (h : j < xs.length) : xs.drop j = pAt xs j :: xs.drop (j + 1) := by
  rw [List.drop_eq_getElem_cons h]
  simp [pAt, List.getElem?_eq_getElem h]
theorem take_at {xs : List Po} {j : Nat} (h : j < xs.length) : xs.take (j + 1) = xs.take j ++ [pAt xs j] := by
  rw [List.take_add_one, List.getElem?_eq_getElem h]
  simp [pAt, List.getElem?_eq_getElem h]
theorem tasks_take {xs : List Po} {j : Nat} (h : j < xs.length) : tasks (xs.take (j + 1)) = tasks (xs.take j) ++ [(pAt xs j).1] := by
  rw [take_at h, tasks_append]; rfl

theorem set_but2 {w : World} {B : Nat} {ks : List Int} {z : Int} (h : IsSet w B ks) : IsSet (putObj w B (.map (setEnts (ks ++ [z])) (ks.length + 1))) B (ks ++ [z]) := by
  have := IsSet.put (ks := ks ++ [z]) h.lt
  rw [List.length_append] at this
  exact this

set_option maxRecDepth 100000 in
set_option maxHeartbeats 1000000 in
theorem checkPosts_any (w : World) (B : Nat) (pre : List Int) (v : Value) (xs : List Po) (hS : IsSet w B pre) (h : IsL KP w v xs) (hv : 0 < xs.length → ∀ k, v.ownBlock = some k → k ≠ B) (hn : xs.length ≤ maxLen) :
    Calls Try.prog 34 #[.map (some B), v] w fun e w' => e = .returned (.int .i64 (postsC pre xs)) ∧ (postsC pre xs = 0 → IsSet w' B (pre ++ tasks xs)) ∧ But B w w' := by
  obtain ⟨a0, c0, rfl⟩ := h.form
  have H0 := hide (h.opens kp rfl)
  have HV := hide hv
  obtain ⟨n, en⟩ : ∃ n, xs.length = n := ⟨_, rfl⟩
  rw [en] at H0 HV hn ⊢
  have HN := hide en
  obtain ⟨R, hR⟩ : ∃ R, postsC pre xs = R := ⟨_, rfl⟩
  rw [hR]
  have HR := hide hR
  have HS0 := hide hS
  unfold maxLen at hn
  clear h hv en hR hS
  go_enter Try.func34, Try.ntmps34
  go_wp2
  go_loopw [9] (fun i wr => ∃ j : Nat, j ≤ n ∧ i = .int .i64 j ∧ But B w wr ∧ IsSet wr B (pre ++ tasks (xs.take j)) ∧ R = postsC (pre ++ tasks (xs.take j)) (xs.drop j)) (fun i _ => n - (intOf i).toNat)
  case atStart => exact ⟨0, Nat.zero_le _, rfl, But.refl _ _, by simpa [tasks] using unhide HS0, by rw [← unhide HR]; simp [tasks]⟩
  case round =>
    clear HS0
    obtain ⟨j, hj, rfl, hnx, hS, hRj⟩ := hrel
    by_cases hlt : j < n
    · obtain ⟨b0, o0, rfl, hb0, l0⟩ := unhide H0 (by omega)
      obtain ⟨⟨t, c, u⟩, hx⟩ : ∃ x, xs.getD j (0, 0, 0) = x := ⟨_, rfl⟩
      have hlt2 : j < xs.length := by rw [unhide HN]; exact hlt
      obtain ⟨k0, k1, k2⟩ := (l0.but hnx hb0 (unhide HV (by omega) b0 rfl)).post (j := j) hlt2 hx
      have hb1 : b0 < wr.heap.size := Nat.lt_of_lt_of_le hb0 hnx.size
      have HT : Hid (tasks (xs.take (j + 1)) = tasks (xs.take j) ++ [t]) := by rw [tasks_take hlt2]; unfold pAt; rw [hx]; rfl
      rw [drop_at hlt2, show pAt xs j = (t, c, u) from hx, postsC] at hRj
      obtain ⟨ks, hks⟩ : ∃ ks, pre ++ tasks (xs.take j) = ks := ⟨_, rfl⟩
      rw [hks] at hS hRj
      have HKS := hide hks
      have i0 : (0 : Int) ≤ (j : Int) := by omega
      have i1 : (j : Int) < (n : Int) := by omega
      have HX := hide hnx; have HS := hide hS
      have HH := hide (sethas_any (wr.alloc (.cells #[.int .i64 t, .int .i64 c, .int .i64 u] 39)) B ks t (hS.below ((Below.refl _ _).alloc (Nat.le_refl _) _)))
      clear hnx hx H0 l0 hlt2 hks hS
      by_cases ht : t < 1
      · rw [if_pos (Or.inl ht)] at hRj
        subst hRj
        go_wp2
        go_ret
        first | exact ⟨rfl, fun h => by simp at h, (unhide HX).call ((Below.refl _ _).alloc (Nat.le_refl _) _)⟩ | exact ⟨rfl, (unhide HX).call ((Below.refl _ _).alloc (Nat.le_refl _) _)⟩
      · by_cases hc : c < 0
        · rw [if_pos (Or.inr hc)] at hRj
          subst hRj
          go_wp2
          go_ret
          first | exact ⟨rfl, fun h => by simp at h, (unhide HX).call ((Below.refl _ _).alloc (Nat.le_refl _) _)⟩ | exact ⟨rfl, (unhide HX).call ((Below.refl _ _).alloc (Nat.le_refl _) _)⟩
        · rw [if_neg (fun h => h.elim ht hc)] at hRj
          obtain ⟨q, hq⟩ : ∃ q, ks.contains t = q := ⟨_, rfl⟩
          have HQ := hide hq
          have hRj2 : R = if q = true then 10 else postsC (ks ++ [t]) (xs.drop (j + 1)) := by rw [← hq]; exact hRj
          rw [show List.contains ks t = q from hq] at HH
          clear hq hRj
          cases q with
          | true =>
            rw [if_pos rfl] at hRj2
            subst hRj2
            go_wp2_with (go_at_call 48; refine (unhide HH).mono ?_; rintro e w3 ⟨rfl, hb3⟩; have HX3 := hide (((unhide HX).call ((Below.refl _ _).alloc (Nat.le_refl _) _)).call hb3); clear hb3)
            go_ret
            first | exact ⟨rfl, fun h => by simp at h, unhide HX3⟩ | exact ⟨rfl, unhide HX3⟩
          | false =>
            rw [if_neg (by simp)] at hRj2
            have HR2 := hide hRj2
            clear hRj2
            have HBT := hide (block3 (new_block wr (.cells #[.int .i64 t, .int .i64 c, .int .i64 u] 39)))
            go_wp2_with (first
              | (go_at_call 48; refine (unhide HH).mono ?_; rintro e w3 ⟨rfl, hb3⟩; obtain ⟨⟨f0, -, -⟩, -, -⟩ := block3 (keep_below (new_block wr (.cells #[.int .i64 t, .int .i64 c, .int .i64 u] 39)) hb3); have HS3 := hide (((unhide HS).below ((Below.refl _ _).alloc (Nat.le_refl _) _)).below hb3); have HX3 := hide (((unhide HX).call ((Below.refl _ _).alloc (Nat.le_refl _) _)).call hb3); clear hb3)
              | (go_at_call 49; refine (setadd_any _ _ _ _ (unhide HS3) (unhide HQ)).mono ?_; rintro e w4 ⟨rfl, rfl⟩))
            go_roundw
            case rel => exact ⟨j + 1, by omega, by go_num, (unhide HX3).putObj _, by
              rw [unhide HT, ← List.append_assoc, unhide HKS]
              exact set_but2 (unhide HS3), by
              rw [unhide HT, ← List.append_assoc, unhide HKS]
              exact unhide HR2⟩
            case measure => simp [intOf]; omega
    · have HX := hide hnx
      have e : j = n := by omega
      have HS := hide hS
      have hR0 : R = 0 := by
        rw [hRj, List.drop_eq_nil_of_le (by rw [unhide HN]; omega)]
        rfl
      subst hR0
      clear hnx hS hRj
      go_wp2
      go_ret
      have h1 := unhide HS
      rw [e, List.take_of_length_le (by rw [unhide HN]; exact Nat.le_refl _)] at h1
      first | exact ⟨rfl, h1, unhide HX⟩ | exact ⟨rfl, fun _ => h1, unhide HX⟩

set_option maxRecDepth 100000 in
set_option maxHeartbeats 1000000 in
theorem waitsAt_any (w : World) (v : Value) (P : Pp) (x : Int) (h : IsPipe w v P) (hs : Short P) :
    Calls Try.prog 25 #[v, .int .i64 x] w fun e w' => e = .returned (.bool (waitsL P x)) ∧ Below w.heap.size w w' := by
  obtain ⟨cap, items, closed, ss, gs⟩ := P
  obtain ⟨a1, c1, a2, c2, a3, c3, rfl, -, hS, hG⟩ := h.form
  obtain ⟨h1, h2, h3⟩ := hs
  simp only at h1 h2 h3 hS hG h
  have HAS := hide (any_pAt ss (isOfP x)); have HAG := hide (any_pAt gs (isOfP x))
  have HS := hide (hS.opens kp rfl); have HG := hide (hG.opens kp rfl)
  have HR : Hid (waitsL ⟨cap, items, closed, ss, gs⟩ x = (ss.any (isOfP x) || gs.any (isOfP x))) := rfl
  obtain ⟨R, hR⟩ : ∃ R, waitsL ⟨cap, items, closed, ss, gs⟩ x = R := ⟨_, rfl⟩
  rw [hR] at HR ⊢
  simp only
  obtain ⟨n2, e2⟩ : ∃ n, ss.length = n := ⟨_, rfl⟩
  obtain ⟨n3, e3⟩ : ∃ n, gs.length = n := ⟨_, rfl⟩
  generalize items.length = n1 at *
  rw [e2] at HS HAS h2
  rw [e3] at HG HAG h3
  rw [e2, e3]
  have HN2 := hide e2; have HN3 := hide e3
  clear h hS hG hR e2 e3
  have HAL := hide ((Below.refl w.heap.size w).alloc (Nat.le_refl _) (.cells #[.int .i64 cap, .slice a1 n1 c1, .bool closed, .slice a2 n2 c2, .slice a3 n3 c3] 25))
  obtain ⟨⟨q0, q1, q2, q3, q4⟩, -, ql⟩ := block5 (new_block w (.cells #[.int .i64 cap, .slice a1 n1 c1, .bool closed, .slice a2 n2 c2, .slice a3 n3 c3] 25))
  go_enter Try.func25, Try.ntmps25
  go_upto_region 1 with fail
  obtain ⟨W0, e0⟩ : ∃ W, w.alloc (.cells #[.int .i64 cap, .slice a1 n1 c1, .bool closed, .slice a2 n2 c2, .slice a3 n3 c3] 25) = W := ⟨_, rfl⟩
  rw [e0] at HAL q0 q1 q2 q3 q4 ql ⊢
  clear e0
  go_wp2
  go_loopw [5] (fun i wr => ∃ j : Nat, j ≤ n2 ∧ i = .int .i64 j ∧ wr = W0 ∧ ∀ i, i < j → isOfP x (pAt ss i) = false) (fun i _ => n2 - (intOf i).toNat)
  case atStart => exact ⟨0, Nat.zero_le _, rfl, rfl, fun i hi => by omega⟩
  case round =>
    obtain ⟨j, hj, rfl, rfl, hne⟩ := hrel
    have HNE := hide hne
    clear hne
    by_cases hlt : j < n2
    · obtain ⟨b0, o0, rfl, hb0, l0⟩ := unhide HS (by omega)
      obtain ⟨⟨t, c, u⟩, hx⟩ : ∃ x, ss.getD j (0, 0, 0) = x := ⟨_, rfl⟩
      obtain ⟨k0, -, -⟩ := (l0.below (unhide HAL) hb0).post (j := j) (by rw [unhide HN2]; exact hlt) hx
      have i0 : (0 : Int) ≤ (j : Int) := by omega
      have i1 : (j : Int) < (n2 : Int) := by omega
      have HP : Hid (isOfP x (pAt ss j) = (t == x)) := by unfold isOfP pAt; rw [hx]; rfl
      clear hx l0 HS
      by_cases hz : t = x
      · subst hz
        have hz1 : (t == t) = true := by simp
        rw [hz1] at HP
        have hR : R = true := by rw [unhide HR, (unhide HAS).2 ⟨j, hlt, unhide HP⟩]; rfl
        subst hR
        go_wp2
        go_ret
        exact ⟨rfl, unhide HAL⟩
      · have hz1 : (t == x) = false := by simpa using hz
        rw [hz1] at HP
        go_wp2
        go_roundw
        case rel => exact ⟨j + 1, by omega, by go_num, by first | rfl | trivial, fun i hi => by
          by_cases e : i = j
          · subst e; exact unhide HP
          · exact unhide HNE i (by omega)⟩
        case measure => simp [intOf]; omega
    · have hfs : ss.any (isOfP x) = false := by
        cases hq : ss.any (isOfP x) with
        | false => rfl
        | true =>
          obtain ⟨i, hi, he⟩ := (unhide HAS).1 hq
          rw [unhide HNE i (by omega)] at he
          cases he
      have HR2 : Hid (R = gs.any (isOfP x)) := by have := unhide HR; rw [hfs, Bool.false_or] at this; exact this
      clear HR hfs HNE HAS HS
      go_wp2
      go_loopw [6] (fun i wr2 => ∃ j : Nat, j ≤ n3 ∧ i = .int .i64 j ∧ wr2 = wr ∧ ∀ i, i < j → isOfP x (pAt gs i) = false) (fun i _ => n3 - (intOf i).toNat)
      case atStart => exact ⟨0, Nat.zero_le _, rfl, rfl, fun i hi => by omega⟩
      case round =>
        obtain ⟨j, hj, rfl, hwr, hne⟩ := hrel
        subst hwr
        have HNE := hide hne
        clear hne
        by_cases hlt : j < n3
        · obtain ⟨b0, o0, rfl, hb0, l0⟩ := unhide HG (by omega)
          obtain ⟨⟨t, c, u⟩, hx⟩ : ∃ x, gs.getD j (0, 0, 0) = x := ⟨_, rfl⟩
          obtain ⟨k0, -, -⟩ := (l0.below (unhide HAL) hb0).post (j := j) (by rw [unhide HN3]; exact hlt) hx
          have i0 : (0 : Int) ≤ (j : Int) := by omega
          have i1 : (j : Int) < (n3 : Int) := by omega
          have HP : Hid (isOfP x (pAt gs j) = (t == x)) := by unfold isOfP pAt; rw [hx]; rfl
          clear hx l0 HG
          by_cases hz : t = x
          · subst hz
            have hz1 : (t == t) = true := by simp
            rw [hz1] at HP
            have hR : R = true := by rw [unhide HR2, (unhide HAG).2 ⟨j, hlt, unhide HP⟩]
            subst hR
            go_wp2
            go_ret
            exact ⟨rfl, unhide HAL⟩
          · have hz1 : (t == x) = false := by simpa using hz
            rw [hz1] at HP
            go_wp2
            go_roundw
            case rel => exact ⟨j + 1, by omega, by go_num, by first | rfl | trivial, fun i hi => by
              by_cases e : i = j
              · subst e; exact unhide HP
              · exact unhide HNE i (by omega)⟩
            case measure => simp [intOf]; omega
        · have hR : R = false := by
            rw [unhide HR2]
            cases hq : gs.any (isOfP x) with
            | false => rfl
            | true =>
              obtain ⟨i, hi, he⟩ := (unhide HAG).1 hq
              rw [unhide HNE i (by omega)] at he
              cases he
          subst hR
          go_wp2
          go_ret
          exact ⟨rfl, unhide HAL⟩
end Go.Proofs.Ytijogcjocandcaa
