/-
  clock.firstWrong, for whatever function it is handed that writes two sets.
-/
import Derived.Test.YtidpmcanfedbdaaF
namespace Go.Proofs.Ytidpmcanfedbdaa
open Go.RowKit

/-- What is wrong with the first one of which something is, behind others. -/
def firstC {α : Type} (p : List α → α → Int) (pre : List α) : List α → Int → Int × Int
  | [], _ => (0, 0)
  | x :: l, i => if p pre x ≠ 0 then (p pre x, i + 1) else firstC p (pre ++ [x]) l (i + 1)
theorem firstC_stop {α : Type} {p : List α → α → Int} {pre : List α} {x : α} {l : List α} {i d : Int} (h : p pre x = d) (hd : d ≠ 0) : firstC p pre (x :: l) i = (d, i + 1) := by
  unfold firstC
  rw [h, if_pos hd]
theorem firstC_go {α : Type} {p : List α → α → Int} {pre : List α} {x : α} {l : List α} {i : Int} (h : p pre x = 0) : firstC p pre (x :: l) i = firstC p (pre ++ [x]) l (i + 1) := by
  rw [firstC, if_neg (by rw [h]; simp)]
theorem firstC_zero {α : Type} {p : List α → α → Int} {pre : List α} {l : List α} {i : Int} (h : (firstC p pre l i).1 = 0) : firstC p pre l i = (0, 0) := by
  induction l generalizing pre i with
  | nil => rfl
  | cons x l ih =>
    unfold firstC at h ⊢
    split
    · rename_i hd
      rw [if_pos hd] at h
      exact absurd h hd
    · rename_i hd
      rw [if_neg hd] at h
      exact ih h
theorem drop_get {α : Type} (d : α) {xs : List α} {j : Nat} (h : j < xs.length) : xs.drop j = xs.getD j d :: xs.drop (j + 1) := by
  rw [List.drop_eq_getElem_cons h]
  simp [List.getElem?_eq_getElem h]
theorem take_get {α : Type} (d : α) {xs : List α} {j : Nat} (h : j < xs.length) : xs.take (j + 1) = xs.take j ++ [xs.getD j d] := by
  rw [List.take_add_one, List.getElem?_eq_getElem h]
  simp [List.getElem?_eq_getElem h]
theorem lies_no_map {α : Type} {K : Kind α} (hK : K.Ok) {w : World} {b off M : Nat} {xs : List α} (h : Lies K w b off xs) (hn : 0 < xs.length) {es : Array MapEntry} {ec : Nat} (hM : w.heap[M]? = some (.map es ec)) : b ≠ M := by
  rintro rfl
  have hp := hK.pos
  have hl := hK.len (xs.getD 0 K.d)
  have := h 0 0 ((K.f (xs.getD 0 K.d))[0]'(by omega)) hn (by rw [List.getElem?_eq_getElem])
  simp [World.cell?, hM] at this

/-- All blocks but g and h are as they were. -/
structure But2 (g h : Nat) (w w' : World) : Prop where
  os : w'.os = w.os
  tape : w'.tape = w.tape
  output : w'.output = w.output
  size : w.heap.size ≤ w'.heap.size
  block : ∀ k, k < w.heap.size → k ≠ g → k ≠ h → w'.heap[k]? = w.heap[k]?
theorem But2.refl (g h : Nat) (w : World) : But2 g h w w := ⟨rfl, rfl, rfl, Nat.le_refl _, fun _ _ _ _ => rfl⟩
theorem But2.trans {g h : Nat} {a b c : World} (p : But2 g h a b) (k : But2 g h b c) : But2 g h a c :=
  ⟨k.os.trans p.os, k.tape.trans p.tape, k.output.trans p.output, Nat.le_trans p.size k.size, fun i hi hg hh => (k.block i (Nat.lt_of_lt_of_le hi p.size) hg hh).trans (p.block i hi hg hh)⟩
theorem But2.of_below {g h : Nat} {w w' : World} (p : Below w.heap.size w w') : But2 g h w w' := ⟨p.os, p.tape, p.output, p.size, fun k hk _ _ => p.block k hk⟩
theorem But2.call {g h : Nat} {a b c : World} (p : But2 g h a b) (k : Below b.heap.size b c) : But2 g h a c := p.trans (But2.of_below k)
theorem But2.put1 {g h : Nat} {a b : World} (p : But2 g h a b) (o : Obj) : But2 g h a (putObj b g o) :=
  p.trans ⟨rfl, rfl, rfl, Nat.le_of_eq size_putObj.symm, fun k _ hg _ => heap_putObj k hg⟩
theorem But2.put2 {g h : Nat} {a b : World} (p : But2 g h a b) (o : Obj) : But2 g h a (putObj b h o) :=
  p.trans ⟨rfl, rfl, rfl, Nat.le_of_eq size_putObj.symm, fun k _ _ hh => heap_putObj k hh⟩
theorem But2.below {g h B : Nat} {w w' : World} (p : But2 g h w w') (hB : B ≤ g) (hC : B ≤ h) (hs : B ≤ w.heap.size) : Below B w w' := ⟨p.os, p.tape, p.output, p.size, fun k hk => p.block k (by omega) (by omega) (by omega)⟩
theorem Lies.but2 {α : Type} {K : Kind α} {w w' : World} {b off g h : Nat} {xs : List α} (l : Lies K w b off xs) (hb : But2 g h w w') (hl : b < w.heap.size) (hg : b ≠ g) (hh : b ≠ h) : Lies K w' b off xs := l.keep (hb.block b hl hg hh)
theorem keep_but2 {w w' : World} {g h k : Nat} {x : Obj} (e : w.heap[k]? = some x) (hb : But2 g h w w') (hk : k ≠ g) (hk2 : k ≠ h) : w'.heap[k]? = some x := (hb.block k (Array.getElem?_eq_some_iff.1 e).1 hk hk2).trans e
theorem But2.set2 {M L R : Nat} {w W : World} (h : But2 M L w W) (hR : w.heap.size ≤ R) (x y : Value) : But2 M L w ((W.setCell ⟨R, 0, none⟩ x).setCell ⟨R, 1, none⟩ y) := by
  exact ⟨h.os, h.tape, h.output, Nat.le_trans h.size (by simp [World.setCell]), fun k hk hg hh => (put2_keep (w := W) (y0 := x) (y1 := y) (by omega)).trans (h.block k hk hg hh)⟩
theorem parts_at {xs : List Al} {j : Nat} (h : j < xs.length) : xs = xs.take j ++ aAt xs j :: xs.drop (j + 1) := by
  rw [← drop_at h, List.take_append_drop]

set_option maxRecDepth 100000 in
set_option maxHeartbeats 2000000 in
theorem firstW_any (w : World) (v : Value) (xs : List Al) (h : IsL KA w v xs) (hn : xs.length ≤ 100000) (M : Nat) (es : Array MapEntry) (ec : Nat) (hM : w.heap[M]? = some (.map es ec)) (L : Nat) (hL : w.heap[L]? = some (.map es ec)) (k : Nat) (hent : ∀ args w, (callFunc k args).run Try.prog w = .ok (.enter k args) w) (caps : Array Value) (p : List Al → Al → Int) (St : List Al → World → Prop)
    (hc : ∀ pre x W, (∃ r, xs = pre ++ x :: r) → But2 M L w W → St pre W → Calls Try.prog k (#[.int .i64 (pre.length : Int), .agg #[.int .i64 x.1, .int .i64 x.2.1, .int .i64 x.2.2.1, .int .i64 x.2.2.2]] ++ caps) W fun e w' => e = .returned (.int .i64 (p pre x)) ∧ But2 M L W w' ∧ (p pre x = 0 → St (pre ++ [x]) w'))
    (hst : ∀ pre W W', St pre W → Below W.heap.size W W' → St pre W') (h0 : St [] w) :
    Calls Try.prog 24 #[v, .func (.func k) #[] caps] w fun e w' => e = .returned (faultV (firstC p [] xs 0)) ∧ But2 M L w w' := by
  obtain ⟨a0, c0, rfl⟩ := h.form
  have H0 := hide (h.opens ka rfl)
  obtain ⟨R, eR⟩ : ∃ R, firstC p [] xs 0 = R := ⟨_, rfl⟩
  rw [eR]
  have HR : Hid (firstC p (xs.take 0) (xs.drop 0) ((0 : Nat) : Int) = R) := eR
  have HC := hide hc; have HST := hide hst
  obtain ⟨n, en⟩ : ∃ n, xs.length = n := ⟨_, rfl⟩
  rw [en] at H0 hn ⊢
  have HN := hide en
  have hRM : M < w.heap.size := size_of hM
  have hRL : L < w.heap.size := size_of hL
  have HM := hide hM; have HL := hide hL
  have HS1 := hide (hst [] w _ h0 ((Below.refl w.heap.size w).alloc (Nat.le_refl _) (.cells #[.int .i64 0, .int .i64 0] 29)))
  have HB1 : Hid (But2 M L w (w.alloc (.cells #[.int .i64 0, .int .i64 0] 29))) := But2.of_below ((Below.refl w.heap.size w).alloc (Nat.le_refl _) _)
  have HK1 := hide (new_block w (.cells #[.int .i64 0, .int .i64 0] 29))
  clear h en eR hc hst h0 hM hL
  go_enter Try.func24, Try.ntmps24
  go_upto_region 1 with fail
  obtain ⟨W0, e0⟩ : ∃ W, w.alloc (.cells #[.int .i64 0, .int .i64 0] 29) = W := ⟨_, rfl⟩
  rw [e0] at HS1 HB1 HK1 ⊢
  clear e0
  go_wp2_with fail
  go_loopw [10] (fun i W => ∃ j : Nat, j ≤ n ∧ i = .int .i64 j ∧ Hid (St (xs.take j) W) ∧ Hid (firstC p (xs.take j) (xs.drop j) (j : Int) = R) ∧ Hid (W.heap[w.heap.size]? = some (.cells #[.int .i64 0, .int .i64 0] 29)) ∧ Hid (But2 M L w W)) (fun i _ => n - (intOf i).toNat)
  case atStart => exact ⟨0, Nat.zero_le _, rfl, HS1, HR, HK1, HB1⟩
  case round =>
    obtain ⟨j, hj, rfl, HSj, HRj, HQj, HBj⟩ := hrel
    clear HS1 HR HK1 HB1
    by_cases hlt : j < n
    · obtain ⟨b0, o0, rfl, hb0, l0⟩ := unhide H0 (by omega)
      have hbM : b0 ≠ M := lies_no_map ka l0 (by rw [unhide HN]; omega) (unhide HM)
      have hbL : b0 ≠ L := lies_no_map ka l0 (by rw [unhide HN]; omega) (unhide HL)
      obtain ⟨⟨t, c, u, y⟩, hx⟩ : ∃ x, xs.getD j (0, 0, 0, 0) = x := ⟨_, rfl⟩
      obtain ⟨k0, k1, k2, k3⟩ := (l0.but2 (unhide HBj) hb0 hbM hbL).alarm (j := j) (by rw [unhide HN]; exact hlt) hx
      have hlt2 : j < xs.length := by rw [unhide HN]; exact hlt
      have HRn := unhide HRj
      rw [drop_get ((0, 0, 0, 0) : Al) hlt2, hx] at HRn
      have hparts : ∃ r, xs = xs.take j ++ (t, c, u, y) :: r := ⟨xs.drop (j + 1), by have := parts_at hlt2; unfold aAt at this; rw [hx] at this; exact this⟩
      have hkl : (xs.take j).length = j := by rw [List.length_take]; omega
      have HTT := hide (take_get ((0, 0, 0, 0) : Al) hlt2)
      rw [hx] at HTT
      obtain ⟨ls, els⟩ : ∃ ls, xs.drop (j + 1) = ls := ⟨_, rfl⟩
      obtain ⟨ks, eks⟩ : ∃ ks, xs.take j = ks := ⟨_, rfl⟩
      rw [els] at HRn; rw [eks] at HRn HTT HSj hparts hkl
      have HPA := hide hparts; have HKL := hide hkl
      have HRN := hide HRn; have HEL := hide els
      have i0 : (0 : Int) ≤ (j : Int) := by omega
      have i1 : (j : Int) < (n : Int) := by omega
      have hw1 : IntKind.i64.wrap ((j : Int) + 1) = (j : Int) + 1 := wrapi (by omega) (by omega)
      clear HRj HRn hx hlt2 l0 eks els hparts hkl
      go_upto_region 4 with fail
      clear k0 k1 k2 k3
      have HS3 := hide (unhide HST ks _ _ (unhide HSj) ((Below.refl wr.heap.size wr).alloc (Nat.le_refl _) (.cells #[.int .i64 t, .int .i64 c, .int .i64 u, .int .i64 y] 42))); have HQ3 := hide (keep_alloc (unhide HQj) (.cells #[.int .i64 t, .int .i64 c, .int .i64 u, .int .i64 y] 42)); have HB3 := hide ((unhide HBj).call ((Below.refl wr.heap.size wr).alloc (Nat.le_refl _) (.cells #[.int .i64 t, .int .i64 c, .int .i64 u, .int .i64 y] 42))); have HZ3 := hide (new_block wr (.cells #[.int .i64 t, .int .i64 c, .int .i64 u, .int .i64 y] 42))
      have hZl : w.heap.size < wr.heap.size := size_of (unhide HQj)
      obtain ⟨Z, eZ⟩ : ∃ X, wr.heap.size = X := ⟨_, rfl⟩
      obtain ⟨W3, e3⟩ : ∃ X, wr.alloc (.cells #[.int .i64 t, .int .i64 c, .int .i64 u, .int .i64 y] 42) = X := ⟨_, rfl⟩
      rw [eZ, e3] at HZ3; rw [e3] at HS3 HQ3 HB3; rw [eZ] at hZl; rw [eZ, e3]
      clear eZ e3 HSj HQj HBj
      obtain ⟨⟨k0, k1, k2, k3⟩, -, zl⟩ := block4 (unhide HZ3)
      have HCW : Hid (Calls Try.prog k (#[.int .i64 (j : Int), .agg #[.int .i64 t, .int .i64 c, .int .i64 u, .int .i64 y]] ++ caps) W3 fun e w' => e = .returned (.int .i64 (p ks (t, c, u, y))) ∧ But2 M L W3 w' ∧ (p ks (t, c, u, y) = 0 → St (ks ++ [(t, c, u, y)]) w')) := by have := unhide HC ks (t, c, u, y) W3 (unhide HPA) (unhide HB3) (unhide HS3); rw [unhide HKL] at this; exact this
      obtain ⟨d, ed⟩ : ∃ d, p ks (t, c, u, y) = d := ⟨_, rfl⟩
      rw [ed] at HCW
      by_cases hd : d = 0
      · subst hd
        have HRN2 : Hid (firstC p (ks ++ [(t, c, u, y)]) ls ((j : Int) + 1) = R) := by have := unhide HRN; rw [firstC_go ed] at this; exact this
        clear ed HRN
        go_wp2_with (refine (unhide HCW).mono ?_; rintro e w4 ⟨rfl, hb4, hs4⟩; have HS4 := hide (hs4 rfl); have HQ4 := hide (keep_but2 (unhide HQ3) hb4 (by omega) (by omega)); have HB4 := hide ((unhide HB3).trans hb4); clear hb4 hs4 k0 k1 k2 k3 zl HS3 HQ3 HB3 HZ3 HCW)
        go_roundw
        case rel => exact ⟨j + 1, by omega, by go_num, by rw [unhide HTT]; exact HS4, by rw [unhide HTT, unhide HEL]; exact HRN2, HQ4, HB4⟩
        case measure => simp [intOf]; omega
      · have x1 : (d != 0) = true := by simpa using hd
        have HE2 : Hid (R = (d, (j : Int) + 1)) := by have := unhide HRN; rw [firstC_stop ed hd] at this; exact this.symm
        clear ed HRN hd
        go_wp2_with (refine (unhide HCW).mono ?_; rintro e w4 ⟨rfl, hb4, -⟩; have HQ4 := hide (keep_but2 (unhide HQ3) hb4 (by omega) (by omega)); have HB4 := hide ((unhide HB3).trans hb4); clear hb4 k0 k1 k2 k3 zl HS3 HQ3 HB3 HZ3 HCW; obtain ⟨q0, q1, f0, f1, ql⟩ := block2 (unhide HQ4))
        refine bodyPost_ret (v := .agg #[.int .i64 d, .int .i64 ((j : Int) + 1)]) (by simp [results, Try.results24, go_sem, q0, q1]) rfl ⟨?_, (unhide HB4).set2 (Nat.le_refl _) _ _⟩
        rw [unhide HE2]
        rfl
    · have hjn : j = n := by omega
      subst hjn
      have HE2 : Hid (R = (0, 0)) := by have := unhide HRj; rw [List.drop_eq_nil_of_le (by rw [unhide HN]; exact Nat.le_refl _)] at this; exact this.symm
      clear HRj
      obtain ⟨q0, q1, f0, f1, ql⟩ := block2 (unhide HQj)
      go_wp2_with fail
      refine bodyPost_ret (v := .agg #[.int .i64 0, .int .i64 0]) (by simp [results, Try.results24, go_sem, q0, q1]) rfl ⟨?_, (unhide HBj).set2 (Nat.le_refl _) _ _⟩
      rw [unhide HE2]
      rfl
end Go.Proofs.Ytidpmcanfedbdaa
