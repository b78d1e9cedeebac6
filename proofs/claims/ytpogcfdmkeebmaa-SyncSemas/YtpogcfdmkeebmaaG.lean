/-
  sync.firstWrong of numbers and of those who wait.
-/
import Derived.Test.YtpogcfdmkeebmaaF
namespace Go.Proofs.Ytpogcfdmkeebmaa
open Go.RowKit

/-- What is wrong with the first one of which something is, behind others. -/
def firstC {α : Type} (p : List α → α → Int) (pre : List α) : List α → Int → Int × Int
  | [], _ => (0, 0)
  | x :: l, i => if p pre x ≠ 0 then (p pre x, i + 1) else firstC p (pre ++ [x]) l (i + 1)
theorem firstC_stop {α : Type} {p : List α → α → Int} {pre : List α} {x : α} {l : List α} {i d : Int} (h : p pre x = d) (hd : d ≠ 0) : firstC p pre (x :: l) i = (d, i + 1) := by
  unfold firstC
  rw [h, if_pos hd]
theorem firstC_go {α : Type} {p : List α → α → Int} {pre : List α} {x : α} {l : List α} {i : Int} (h : p pre x = 0) : firstC p pre (x :: l) i = firstC p (pre ++ [x]) l (i + 1) := by
  rw [firstC, if_neg (by rw [h]; simp)]
theorem firstC_zero {α : Type} {p : List α → α → Int} {pre : List α} {l : List α} {i : Int} (h : (firstC p pre l i).1 = 0) : firstC p pre l i = (0, 0) := by
  induction l generalizing pre i with
  | nil => rfl
  | cons x l ih =>
    unfold firstC at h ⊢
    split
    · rename_i hd
      rw [if_pos hd] at h
      exact absurd h hd
    · rename_i hd
      rw [if_neg hd] at h
      exact ih h
theorem drop_get {α : Type} (d : α) {xs : List α} {j : Nat} (h : j < xs.length) : xs.drop j = xs.getD j d :: xs.drop (j + 1) := by
  rw [List.drop_eq_getElem_cons h]
  simp [List.getElem?_eq_getElem h]
theorem take_get {α : Type} (d : α) {xs : List α} {j : Nat} (h : j < xs.length) : xs.take (j + 1) = xs.take j ++ [xs.getD j d] := by
  rw [List.take_add_one, List.getElem?_eq_getElem h]
  simp [List.getElem?_eq_getElem h]
theorem lies_no_map {α : Type} {K : Kind α} (hK : K.Ok) {w : World} {b off M : Nat} {xs : List α} (h : Lies K w b off xs) (hn : 0 < xs.length) {es : Array MapEntry} {ec : Nat} (hM : w.heap[M]? = some (.map es ec)) : b ≠ M := by
  rintro rfl
  have hp := hK.pos
  have hl := hK.len (xs.getD 0 K.d)
  have := h 0 0 ((K.f (xs.getD 0 K.d))[0]'(by omega)) hn (by rw [List.getElem?_eq_getElem])
  simp [World.cell?, hM] at this

set_option maxRecDepth 100000 in
set_option maxHeartbeats 2000000 in
theorem firstI_any (w : World) (v : Value) (xs : List Int) (h : IsL KI w v xs) (hn : xs.length ≤ 100000) (M : Nat) (es : Array MapEntry) (ec : Nat) (hM : w.heap[M]? = some (.map es ec)) (k : Nat) (hent : ∀ args w, (callFunc k args).run Try.prog w = .ok (.enter k args) w) (caps : Array Value) (p : List Int → Int → Int) (St : List Int → World → Prop)
    (hc : ∀ pre x W, But M w W → St pre W → Calls Try.prog k (#[.int .i64 x] ++ caps) W fun e w' => e = .returned (.int .i64 (p pre x)) ∧ But M W w' ∧ (p pre x = 0 → St (pre ++ [x]) w'))
    (hst : ∀ pre W W', St pre W → Below W.heap.size W W' → St pre W') (h0 : St [] w) :
    Calls Try.prog 57 #[v, .func (.func k) #[] caps] w fun e w' => e = .returned (faultV (firstC p [] xs 0)) ∧ But M w w' := by
  obtain ⟨a0, c0, rfl⟩ := h.form
  have H0 := hide (h.opens ki rfl)
  obtain ⟨R, eR⟩ : ∃ R, firstC p [] xs 0 = R := ⟨_, rfl⟩
  rw [eR]
  have HR : Hid (firstC p (xs.take 0) (xs.drop 0) ((0 : Nat) : Int) = R) := eR
  have HC := hide hc; have HST := hide hst
  obtain ⟨n, en⟩ : ∃ n, xs.length = n := ⟨_, rfl⟩
  rw [en] at H0 hn ⊢
  have HN := hide en
  have hRM : M < w.heap.size := size_of hM
  have HM := hide hM
  have HS1 := hide (hst [] w _ h0 ((Below.refl w.heap.size w).alloc (Nat.le_refl _) (.cells #[.int .i64 0, .int .i64 0] 29)))
  have HB1 : Hid (But M w (w.alloc (.cells #[.int .i64 0, .int .i64 0] 29))) := But.of_below ((Below.refl w.heap.size w).alloc (Nat.le_refl _) _)
  have HK1 := hide (new_block w (.cells #[.int .i64 0, .int .i64 0] 29))
  clear h en eR hc hst h0 hM
  go_enter Try.func57, Try.ntmps57
  go_upto_region 1 with fail
  obtain ⟨W0, e0⟩ : ∃ W, w.alloc (.cells #[.int .i64 0, .int .i64 0] 29) = W := ⟨_, rfl⟩
  rw [e0] at HS1 HB1 HK1 ⊢
  clear e0
  go_wp2_with fail
  go_loopw [10] (fun i W => ∃ j : Nat, j ≤ n ∧ i = .int .i64 j ∧ Hid (St (xs.take j) W) ∧ Hid (firstC p (xs.take j) (xs.drop j) (j : Int) = R) ∧ Hid (W.heap[w.heap.size]? = some (.cells #[.int .i64 0, .int .i64 0] 29)) ∧ Hid (But M w W)) (fun i _ => n - (intOf i).toNat)
  case atStart => exact ⟨0, Nat.zero_le _, rfl, HS1, HR, HK1, HB1⟩
  case round =>
    obtain ⟨j, hj, rfl, HSj, HRj, HQj, HBj⟩ := hrel
    clear HS1 HR HK1 HB1
    by_cases hlt : j < n
    · obtain ⟨b0, o0, rfl, hb0, l0⟩ := unhide H0 (by omega)
      have hbM : b0 ≠ M := lies_no_map ki l0 (by rw [unhide HN]; omega) (unhide HM)
      obtain ⟨x, hx⟩ : ∃ x, xs.getD j 0 = x := ⟨_, rfl⟩
      have k0 := (l0.but (unhide HBj) hb0 hbM).ints (j := j) (by rw [unhide HN]; exact hlt)
      rw [hx] at k0
      have hlt2 : j < xs.length := by rw [unhide HN]; exact hlt
      have HRn := unhide HRj
      rw [drop_get (0 : Int) hlt2, hx] at HRn
      have HTT := hide (take_get (0 : Int) hlt2)
      rw [hx] at HTT
      obtain ⟨ls, els⟩ : ∃ ls, xs.drop (j + 1) = ls := ⟨_, rfl⟩
      obtain ⟨ks, eks⟩ : ∃ ks, xs.take j = ks := ⟨_, rfl⟩
      rw [els] at HRn; rw [eks] at HRn HTT HSj
      have HRN := hide HRn; have HEL := hide els
      have i0 : (0 : Int) ≤ (j : Int) := by omega
      have i1 : (j : Int) < (n : Int) := by omega
      have hw1 : IntKind.i64.wrap ((j : Int) + 1) = (j : Int) + 1 := wrapi (by omega) (by omega)
      clear HRj HRn hx hlt2 l0 eks els
      have HCW := hide (unhide HC ks x wr (unhide HBj) (unhide HSj))
      obtain ⟨d, ed⟩ : ∃ d, p ks x = d := ⟨_, rfl⟩
      rw [ed] at HCW
      by_cases hd : d = 0
      · subst hd
        have HRN2 : Hid (firstC p (ks ++ [x]) ls ((j : Int) + 1) = R) := by have := unhide HRN; rw [firstC_go ed] at this; exact this
        clear ed HRN
        go_wp2_with (refine (unhide HCW).mono ?_; rintro e w4 ⟨rfl, hb4, hs4⟩; have HS4 := hide (hs4 rfl); have HQ4 := hide (keep_but (unhide HQj) hb4 (by omega)); have HB4 := hide ((unhide HBj).trans hb4); clear hb4 hs4 k0 HSj HQj HBj HCW)
        go_roundw
        case rel => exact ⟨j + 1, by omega, by go_num, by rw [unhide HTT]; exact HS4, by rw [unhide HTT, unhide HEL]; exact HRN2, HQ4, HB4⟩
        case measure => simp [intOf]; omega
      · have x1 : (d != 0) = true := by simpa using hd
        have HE2 : Hid (R = (d, (j : Int) + 1)) := by have := unhide HRN; rw [firstC_stop ed hd] at this; exact this.symm
        clear ed HRN hd
        go_wp2_with (refine (unhide HCW).mono ?_; rintro e w4 ⟨rfl, hb4, -⟩; have HQ4 := hide (keep_but (unhide HQj) hb4 (by omega)); have HB4 := hide ((unhide HBj).trans hb4); clear hb4 k0 HSj HQj HBj HCW; obtain ⟨q0, q1, f0, f1, ql⟩ := block2 (unhide HQ4))
        refine bodyPost_ret (v := .agg #[.int .i64 d, .int .i64 ((j : Int) + 1)]) (by simp [results, Try.results57, go_sem, q0, q1]) rfl ⟨?_, (unhide HB4).set2 (Nat.le_refl _) _ _⟩
        rw [unhide HE2]
        rfl
    · have hjn : j = n := by omega
      subst hjn
      have HE2 : Hid (R = (0, 0)) := by have := unhide HRj; rw [List.drop_eq_nil_of_le (by rw [unhide HN]; exact Nat.le_refl _)] at this; exact this.symm
      clear HRj
      obtain ⟨q0, q1, f0, f1, ql⟩ := block2 (unhide HQj)
      go_wp2_with fail
      refine bodyPost_ret (v := .agg #[.int .i64 0, .int .i64 0]) (by simp [results, Try.results57, go_sem, q0, q1]) rfl ⟨?_, (unhide HBj).set2 (Nat.le_refl _) _ _⟩
      rw [unhide HE2]
      rfl

set_option maxRecDepth 100000 in
set_option maxHeartbeats 2000000 in
theorem firstW_any (w : World) (v : Value) (xs : List Po) (h : IsL KP w v xs) (hn : xs.length ≤ 100000) (M : Nat) (es : Array MapEntry) (ec : Nat) (hM : w.heap[M]? = some (.map es ec)) (k : Nat) (hent : ∀ args w, (callFunc k args).run Try.prog w = .ok (.enter k args) w) (caps : Array Value) (p : List Po → Po → Int) (St : List Po → World → Prop)
    (hc : ∀ pre x W, But M w W → St pre W → Calls Try.prog k (#[.agg #[.int .i64 x.1, .bool x.2.1, .int .i64 x.2.2]] ++ caps) W fun e w' => e = .returned (.int .i64 (p pre x)) ∧ But M W w' ∧ (p pre x = 0 → St (pre ++ [x]) w'))
    (hst : ∀ pre W W', St pre W → Below W.heap.size W W' → St pre W') (h0 : St [] w) :
    Calls Try.prog 63 #[v, .func (.func k) #[] caps] w fun e w' => e = .returned (faultV (firstC p [] xs 0)) ∧ But M w w' := by
  obtain ⟨a0, c0, rfl⟩ := h.form
  have H0 := hide (h.opens kp rfl)
  obtain ⟨R, eR⟩ : ∃ R, firstC p [] xs 0 = R := ⟨_, rfl⟩
  rw [eR]
  have HR : Hid (firstC p (xs.take 0) (xs.drop 0) ((0 : Nat) : Int) = R) := eR
  have HC := hide hc; have HST := hide hst
  obtain ⟨n, en⟩ : ∃ n, xs.length = n := ⟨_, rfl⟩
  rw [en] at H0 hn ⊢
  have HN := hide en
  have hRM : M < w.heap.size := size_of hM
  have HM := hide hM
  have HS1 := hide (hst [] w _ h0 ((Below.refl w.heap.size w).alloc (Nat.le_refl _) (.cells #[.int .i64 0, .int .i64 0] 29)))
  have HB1 : Hid (But M w (w.alloc (.cells #[.int .i64 0, .int .i64 0] 29))) := But.of_below ((Below.refl w.heap.size w).alloc (Nat.le_refl _) _)
  have HK1 := hide (new_block w (.cells #[.int .i64 0, .int .i64 0] 29))
  clear h en eR hc hst h0 hM
  go_enter Try.func63, Try.ntmps63
  go_upto_region 1 with fail
  obtain ⟨W0, e0⟩ : ∃ W, w.alloc (.cells #[.int .i64 0, .int .i64 0] 29) = W := ⟨_, rfl⟩
  rw [e0] at HS1 HB1 HK1 ⊢
  clear e0
  go_wp2_with fail
  go_loopw [10] (fun i W => ∃ j : Nat, j ≤ n ∧ i = .int .i64 j ∧ Hid (St (xs.take j) W) ∧ Hid (firstC p (xs.take j) (xs.drop j) (j : Int) = R) ∧ Hid (W.heap[w.heap.size]? = some (.cells #[.int .i64 0, .int .i64 0] 29)) ∧ Hid (But M w W)) (fun i _ => n - (intOf i).toNat)
  case atStart => exact ⟨0, Nat.zero_le _, rfl, HS1, HR, HK1, HB1⟩
  case round =>
    obtain ⟨j, hj, rfl, HSj, HRj, HQj, HBj⟩ := hrel
    clear HS1 HR HK1 HB1
    by_cases hlt : j < n
    · obtain ⟨b0, o0, rfl, hb0, l0⟩ := unhide H0 (by omega)
      have hbM : b0 ≠ M := lies_no_map kp l0 (by rw [unhide HN]; omega) (unhide HM)
      obtain ⟨⟨t, c, u⟩, hx⟩ : ∃ x, xs.getD j (0, false, 0) = x := ⟨_, rfl⟩
      obtain ⟨k0, k1, k2⟩ := (l0.but (unhide HBj) hb0 hbM).post (j := j) (by rw [unhide HN]; exact hlt) hx
      have hlt2 : j < xs.length := by rw [unhide HN]; exact hlt
      have HRn := unhide HRj
      rw [drop_get ((0, false, 0) : Po) hlt2, hx] at HRn
      have HTT := hide (take_get ((0, false, 0) : Po) hlt2)
      rw [hx] at HTT
      obtain ⟨ls, els⟩ : ∃ ls, xs.drop (j + 1) = ls := ⟨_, rfl⟩
      obtain ⟨ks, eks⟩ : ∃ ks, xs.take j = ks := ⟨_, rfl⟩
      rw [els] at HRn; rw [eks] at HRn HTT HSj
      have HRN := hide HRn; have HEL := hide els
      have i0 : (0 : Int) ≤ (j : Int) := by omega
      have i1 : (j : Int) < (n : Int) := by omega
      have hw1 : IntKind.i64.wrap ((j : Int) + 1) = (j : Int) + 1 := wrapi (by omega) (by omega)
      clear HRj HRn hx hlt2 l0 eks els
      go_upto_region 4 with fail
      clear k0 k1 k2
      have HS3 := hide (unhide HST ks _ _ (unhide HSj) ((Below.refl wr.heap.size wr).alloc (Nat.le_refl _) (.cells #[.int .i64 t, .bool c, .int .i64 u] 63))); have HQ3 := hide (keep_alloc (unhide HQj) (.cells #[.int .i64 t, .bool c, .int .i64 u] 63)); have HB3 := hide ((unhide HBj).call ((Below.refl wr.heap.size wr).alloc (Nat.le_refl _) (.cells #[.int .i64 t, .bool c, .int .i64 u] 63))); have HZ3 := hide (new_block wr (.cells #[.int .i64 t, .bool c, .int .i64 u] 63))
      have hZl : w.heap.size < wr.heap.size := size_of (unhide HQj)
      obtain ⟨Z, eZ⟩ : ∃ X, wr.heap.size = X := ⟨_, rfl⟩
      obtain ⟨W3, e3⟩ : ∃ X, wr.alloc (.cells #[.int .i64 t, .bool c, .int .i64 u] 63) = X := ⟨_, rfl⟩
      rw [eZ, e3] at HZ3; rw [e3] at HS3 HQ3 HB3; rw [eZ] at hZl; rw [eZ, e3]
      clear eZ e3 HSj HQj HBj
      obtain ⟨⟨k0, k1, k2⟩, -, zl⟩ := block3 (unhide HZ3)
      have HCW : Hid (Calls Try.prog k (#[.agg #[.int .i64 t, .bool c, .int .i64 u]] ++ caps) W3 fun e w' => e = .returned (.int .i64 (p ks (t, c, u))) ∧ But M W3 w' ∧ (p ks (t, c, u) = 0 → St (ks ++ [(t, c, u)]) w')) := unhide HC ks (t, c, u) W3 (unhide HB3) (unhide HS3)
      obtain ⟨d, ed⟩ : ∃ d, p ks (t, c, u) = d := ⟨_, rfl⟩
      rw [ed] at HCW
      by_cases hd : d = 0
      · subst hd
        have HRN2 : Hid (firstC p (ks ++ [(t, c, u)]) ls ((j : Int) + 1) = R) := by have := unhide HRN; rw [firstC_go ed] at this; exact this
        clear ed HRN
        go_wp2_with (refine (unhide HCW).mono ?_; rintro e w4 ⟨rfl, hb4, hs4⟩; have HS4 := hide (hs4 rfl); have HQ4 := hide (keep_but (unhide HQ3) hb4 (by omega)); have HB4 := hide ((unhide HB3).trans hb4); clear hb4 hs4 k0 k1 k2 zl HS3 HQ3 HB3 HZ3 HCW)
        go_roundw
        case rel => exact ⟨j + 1, by omega, by go_num, by rw [unhide HTT]; exact HS4, by rw [unhide HTT, unhide HEL]; exact HRN2, HQ4, HB4⟩
        case measure => simp [intOf]; omega
      · have x1 : (d != 0) = true := by simpa using hd
        have HE2 : Hid (R = (d, (j : Int) + 1)) := by have := unhide HRN; rw [firstC_stop ed hd] at this; exact this.symm
        clear ed HRN hd
        go_wp2_with (refine (unhide HCW).mono ?_; rintro e w4 ⟨rfl, hb4, -⟩; have HQ4 := hide (keep_but (unhide HQ3) hb4 (by omega)); have HB4 := hide ((unhide HB3).trans hb4); clear hb4 k0 k1 k2 zl HS3 HQ3 HB3 HZ3 HCW; obtain ⟨q0, q1, f0, f1, ql⟩ := block2 (unhide HQ4))
        refine bodyPost_ret (v := .agg #[.int .i64 d, .int .i64 ((j : Int) + 1)]) (by simp [results, Try.results63, go_sem, q0, q1]) rfl ⟨?_, (unhide HB4).set2 (Nat.le_refl _) _ _⟩
        rw [unhide HE2]
        rfl
    · have hjn : j = n := by omega
      subst hjn
      have HE2 : Hid (R = (0, 0)) := by have := unhide HRj; rw [List.drop_eq_nil_of_le (by rw [unhide HN]; exact Nat.le_refl _)] at this; exact this.symm
      clear HRj
      obtain ⟨q0, q1, f0, f1, ql⟩ := block2 (unhide HQj)
      go_wp2_with fail
      refine bodyPost_ret (v := .agg #[.int .i64 0, .int .i64 0]) (by simp [results, Try.results63, go_sem, q0, q1]) rfl ⟨?_, (unhide HBj).set2 (Nat.le_refl _) _ _⟩
      rw [unhide HE2]
      rfl
end Go.Proofs.Ytpogcfdmkeebmaa
