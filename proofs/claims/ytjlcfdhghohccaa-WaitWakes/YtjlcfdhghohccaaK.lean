/-
  wait.taken and the function that it hands over; that of wait.Drop.
-/
import Derived.Test.YtjlcfdhghohccaaJ
namespace Go.Proofs.Ytjlcfdhghohccaa
open Go.RowKit

/-- How many are taken. -/
def takeN (n : Int) (m : Nat) : Nat := (max 0 (min n m)).toNat
theorem takeN_le (n : Int) (m : Nat) : takeN n m ≤ m := by unfold takeN; omega
theorem run_min2 (w : World) (ts : Array TypeId) (t : TypeId) (x y z : Int) (hz : min x y = z) : (Builtin.min_ ts t #[.int .i64 x, .int .i64 y]).run Try.prog w = .ok (.int .i64 z) w := by
  rw [run_min_int2, ← hz]
  congr 2
  split <;> omega
theorem run_max2 (w : World) (ts : Array TypeId) (t : TypeId) (x y z : Int) (hz : max x y = z) : (Builtin.max_ ts t #[.int .i64 x, .int .i64 y]).run Try.prog w = .ok (.int .i64 z) w := by
  rw [run_max_int2, ← hz]
  congr 2
  split <;> omega

/-- A slice of numbers does not lie in a variable that holds a slice. -/
theorem IsInts.setVar {w : World} {v : Value} {zs : List Int} {F : Nat} {x y : Value} (h : IsInts w v zs) (hF : w.heap[F]? = some (.cells #[x] 34 (0, 0))) (hx : ∀ n, x ≠ .int .i64 n) : IsInts (w.setCell ⟨F, 0, none⟩ y) v zs := by
  by_cases h0 : 0 < zs.length
  · obtain ⟨b, off, c, rfl, hb, hc⟩ := h.at h0
    have hne : b ≠ F := by
      rintro rfl
      have h1 := hc 0 h0
      have h2 := block1 hF
      by_cases e : off = 0
      · subst e
        rw [Nat.zero_add] at h1
        rw [h2.1] at h1
        exact hx _ (Option.some.inj h1)
      · simp only [World.cell?, hF] at h1
        have : (#[x] : Array Value)[off + 0]? = none := by simp; omega
        rw [this] at h1
        cases h1
    refine ⟨⟨h.1.1, Or.inr ⟨_, _, rfl, fun j u hj => ?_⟩⟩, h.2⟩
    have hj2 : j < zs.length := by have := (List.getElem?_eq_some_iff.1 hj).1; simpa using this
    rw [WideShapes.add_plain]
    have h3 := hc j hj2
    rw [List.getElem?_map, List.getElem?_eq_getElem hj2] at hj
    simp only [Option.map_some, Option.some.injEq] at hj
    have hk : (w.setCell ⟨F, 0, none⟩ y).heap[b]? = w.heap[b]? := Below.heap_setCell _ _ _ _ (by simpa using hne)
    rw [World.cell?_of_block (w := w) (a := ⟨b, off + j, none⟩) hk, h3, ← hj]
    simp [List.getElem?_eq_getElem hj2]
  · obtain ⟨a, c, rfl⟩ := h.form
    have e : zs = [] := List.eq_nil_of_length_eq_zero (by omega)
    subst e
    refine ⟨⟨rfl, ?_⟩, h.2⟩
    obtain ⟨_, h1 | ⟨ad, cap, h1, _⟩⟩ := h.1
    · exact Or.inl h1
    · exact Or.inr ⟨ad, cap, h1, fun j u hj => by simp at hj⟩

/-- The variable F holds a row of its own of these numbers. -/
def HoldsI (base F k : Nat) (zs : List Int) (w : World) : Prop := ∃ a c, w.heap[F]? = some (.cells #[.slice a k c] 34 (0, 0)) ∧ Own base w (.slice a k c) zs
theorem HoldsI.steady {base F k : Nat} {zs : List Int} (W W' : World) (h : HoldsI base F k zs W) (hs : Steady W W') : HoldsI base F k zs W' := by
  obtain ⟨a, c, h1, h2⟩ := h
  exact ⟨a, c, hs.block _ _ h1 (fun c f e => by cases e), h2.steady hs⟩

theorem one_set {w : World} {F : Nat} {x y : Value} {t : TypeId} (h : w.heap[F]? = some (.cells #[x] t (0, 0))) : (w.setCell ⟨F, 0, none⟩ y).heap[F]? = some (.cells #[y] t (0, 0)) := by
  simp [World.setCell, Array.getElem?_modify, h]
theorem gap_set {w w1 : World} {F : Nat} {y : Value} (h : Below w.heap.size w w1) : Gap F (F + 1) w (w1.setCell ⟨F, 0, none⟩ y) := by
  have hb := h.setCell (p := ⟨F, 0, none⟩)
  refine ⟨?_, ?_, ?_, ?_, fun k hk h2 => ?_⟩
  · exact h.os
  · exact h.tape
  · exact h.output
  · simpa [World.setCell] using h.size
  · rw [Below.heap_setCell _ _ _ _ (by simp; omega)]
    exact h.block k hk

set_option maxRecDepth 100000 in
set_option maxHeartbeats 2000000 in
theorem taken1_some (w : World) (b off m c N F : Nat) (n : Int) (k : Nat) (hk : takeN n m = k) (T : List Int) (h : IsInts w (.slice (some ⟨b, off, none⟩) m c) T) (hN : w.heap[N]? = some (.cells #[.int .i64 n] 3 (0, 0))) (hF : w.heap[F]? = some (.cells #[.slice none 0 0] 34 (0, 0))) (hm : m ≤ 100000) :
    Calls Try.prog 48 #[.slice (some ⟨b, off, none⟩) m c, .pointer (some ⟨N, 0, none⟩), .pointer (some ⟨F, 0, none⟩)] w fun e w' => ∃ a2 c2, e = .returned (.slice a2 (m - k) c2) ∧ IsInts w' (.slice a2 (m - k) c2) (T.drop k) ∧ HoldsI w.heap.size F k (T.take k) w' ∧ Gap F (F + 1) w w' := by
  have hkm : k ≤ m := by rw [← hk]; exact takeN_le n m
  obtain ⟨n0, _, _⟩ := block1 hN
  obtain ⟨f0, f1, f2⟩ := block1 hF
  have hfit := h.fits
  have hlen := h.len
  obtain ⟨z, hz⟩ : ∃ z : Int, min n (m : Int) = z := ⟨_, rfl⟩
  have hzk : max 0 z = (k : Int) := by rw [← hk, ← hz]; unfold takeN; omega
  have hmin := fun (W : World) ts t => run_min2 W ts t n (m : Int) z hz
  have hmax := fun (W : World) ts t => run_max2 W ts t 0 z (k : Int) hzk
  have HFR : Hid (Calls Try.prog 46 #[.slice (some ⟨b, off, none⟩) k c] w fun e w' => ∃ a' c', e = .returned (.slice a' k c') ∧ Own w.heap.size w' (.slice a' k c') (T.take k) ∧ Below w.heap.size w w') := by
    have ht := h.take hkm
    have htl := ht.len
    have := fresh_any w (.slice (some ⟨b, off, none⟩) k c) (T.take k).length _ ht.1 (ints_one _) (by rw [htl]; omega)
    rw [htl] at this
    refine this.mono ?_
    rintro e w' ⟨v', rfl, h2, h3⟩
    obtain ⟨a', c', rfl⟩ := Rd.form (Rd.of_owns h2)
    exact ⟨a', c', rfl, by rw [Own, htl]; exact h2, h3⟩
  have HD : Hid (∀ A, (A = if c = k then some ⟨b, off, none⟩ else some ⟨b, off + k, none⟩) → IsInts w (.slice A (m - k) (c - k)) (T.drop k)) := fun A hA => h.drop_if hkm hA
  have HF := hide hF
  have i0 : (0 : Int) ≤ (k : Int) := by omega
  have i1 : (k : Int) ≤ (m : Int) := by omega
  have i2 : (k : Int) ≤ (c : Int) := by omega
  have i3 : (m : Int) ≤ (c : Int) := by omega
  clear hN hF h hz hzk hk hlen
  go_enter Try.func48, Try.ntmps48
  go_upto_region 3 with (first
    | (rw [hmin])
    | (rw [hmax])
    | (go_at_call 46; refine (unhide HFR).mono ?_; rintro e w1 ⟨a1, c1, rfl, ho1, hb1⟩; have HO1 := hide ho1; have HB1 := hide hb1; clear ho1 hb1 f0 f1; obtain ⟨f0, f1, f2⟩ := block1 (keep_below (unhide HF) (unhide HB1))))
  obtain ⟨A, hA⟩ : ∃ A, (if c = k then some (⟨b, off, none⟩ : Addr) else some ⟨b, off + k, none⟩) = A := ⟨_, rfl⟩
  have HI1 := hide (unhide HD A hA.symm)
  go_wp2_with fail
  go_ret
  refine ⟨A, _, rfl, ((unhide HI1).below (unhide HB1)).setVar (keep_below (unhide HF) (unhide HB1)) (fun n h => by cases h), ⟨a1, c1, one_set (keep_below (unhide HF) (unhide HB1)), ?_⟩, gap_set (unhide HB1)⟩
  exact (unhide HO1).keep fun k h1 _ => Below.heap_setCell _ _ _ _ (by have := (block1 (unhide HF)).2.2; simp; omega)

set_option maxRecDepth 100000 in
set_option maxHeartbeats 2000000 in
theorem taken1_zero (w : World) (a : Option Addr) (c N F : Nat) (n : Int) (h : IsInts w (.slice a 0 c) []) (hN : w.heap[N]? = some (.cells #[.int .i64 n] 3 (0, 0))) (hF : w.heap[F]? = some (.cells #[.slice none 0 0] 34 (0, 0))) :
    Calls Try.prog 48 #[.slice a 0 c, .pointer (some ⟨N, 0, none⟩), .pointer (some ⟨F, 0, none⟩)] w fun e w' => ∃ a2 c2, e = .returned (.slice a2 0 c2) ∧ IsInts w' (.slice a2 0 c2) [] ∧ HoldsI w.heap.size F 0 [] w' ∧ Gap F (F + 1) w w' := by
  obtain ⟨n0, _, _⟩ := block1 hN
  obtain ⟨f0, f1, f2⟩ := block1 hF
  obtain ⟨z, hz⟩ : ∃ z : Int, min n (0 : Int) = z := ⟨_, rfl⟩
  have hzk : max 0 z = (0 : Int) := by rw [← hz]; omega
  have hmin := fun (W : World) ts t => run_min2 W ts t n (0 : Int) z hz
  have hmax := fun (W : World) ts t => run_max2 W ts t 0 z (0 : Int) hzk
  have HV := hide h
  have HFR : Hid (Calls Try.prog 46 #[.slice a 0 c] w fun e w' => ∃ a' c', e = .returned (.slice a' 0 c') ∧ Own w.heap.size w' (.slice a' 0 c') [] ∧ Below w.heap.size w w') := by
    have := fresh_any w (.slice a 0 c) 0 [] h.1 (by simp) (by omega)
    refine this.mono ?_
    rintro e w' ⟨v', rfl, h2, h3⟩
    obtain ⟨a', c', rfl⟩ := Rd.form (Rd.of_owns h2)
    exact ⟨a', c', rfl, h2, h3⟩
  have HF := hide hF
  cases a with
  | none =>
    have e : c = 0 := by
      obtain ⟨⟨_, ⟨h1, _⟩ | ⟨ad, cap, h1, _⟩⟩, _⟩ := h
      · cases h1; rfl
      · cases h1
    subst e
    clear hN hF h hz hzk
    go_enter Try.func48, Try.ntmps48
    go_wp2_with (first
      | (rw [hmin])
      | (rw [hmax])
      | (go_at_call 46; refine (unhide HFR).mono ?_; rintro e w1 ⟨a1, c1, rfl, ho1, hb1⟩; have HO1 := hide ho1; have HB1 := hide hb1; clear ho1 hb1 f0 f1; obtain ⟨f0, f1, f2⟩ := block1 (keep_below (unhide HF) (unhide HB1))))
    go_ret
    refine ⟨none, 0, rfl, ints_nil _, ⟨a1, c1, one_set (keep_below (unhide HF) (unhide HB1)), ?_⟩, gap_set (unhide HB1)⟩
    exact (unhide HO1).keep fun k h1 _ => Below.heap_setCell _ _ _ _ (by have := (block1 (unhide HF)).2.2; simp; omega)
  | some ad =>
    clear hN hF h hz hzk
    go_enter Try.func48, Try.ntmps48
    go_wp2_with (first
      | (rw [hmin])
      | (rw [hmax])
      | (go_at_call 46; refine (unhide HFR).mono ?_; rintro e w1 ⟨a1, c1, rfl, ho1, hb1⟩; have HO1 := hide ho1; have HB1 := hide hb1; clear ho1 hb1 f0 f1; obtain ⟨f0, f1, f2⟩ := block1 (keep_below (unhide HF) (unhide HB1))))
    go_ret
    refine ⟨some ad, c, rfl, ((unhide HV).below (unhide HB1)).setVar (keep_below (unhide HF) (unhide HB1)) (fun n h => by cases h), ⟨a1, c1, one_set (keep_below (unhide HF) (unhide HB1)), ?_⟩, gap_set (unhide HB1)⟩
    exact (unhide HO1).keep fun k h1 _ => Below.heap_setCell _ _ _ _ (by have := (block1 (unhide HF)).2.2; simp; omega)

theorem taken1_any (w : World) (a : Option Addr) (m c N F : Nat) (n : Int) (T : List Int) (h : IsInts w (.slice a m c) T) (hN : w.heap[N]? = some (.cells #[.int .i64 n] 3 (0, 0))) (hF : w.heap[F]? = some (.cells #[.slice none 0 0] 34 (0, 0))) (hm : m ≤ 100000) :
    Calls Try.prog 48 #[.slice a m c, .pointer (some ⟨N, 0, none⟩), .pointer (some ⟨F, 0, none⟩)] w fun e w' => ∃ a2 c2, e = .returned (.slice a2 (m - takeN n m) c2) ∧ IsInts w' (.slice a2 (m - takeN n m) c2) (T.drop (takeN n m)) ∧ HoldsI w.heap.size F (takeN n m) (T.take (takeN n m)) w' ∧ Gap F (F + 1) w w' := by
  have hl := h.len
  by_cases h0 : 0 < m
  · obtain ⟨b, off, c', e, hb, hc⟩ := h.at (by omega)
    cases e
    exact taken1_some w b off _ c N F n _ rfl T h hN hF hm
  · obtain rfl : m = 0 := by omega
    obtain rfl : T = [] := List.eq_nil_of_length_eq_zero hl
    have e : takeN n 0 = 0 := by have := takeN_le n 0; omega
    rw [e]
    exact taken1_zero w a c N F n h hN hF

/-- The lines without the first n tasks at an address. -/
def takenL (x n : Int) (ls : List Ln) : List Ln := setL x ((tasksL x ls).drop (takeN n (tasksL x ls).length)) ls
def firstL (x n : Int) (ls : List Ln) : List Int := (tasksL x ls).take (takeN n (tasksL x ls).length)

theorem tasksL_le (x : Int) (ls : List Ln) : (tasksL x ls).length ≤ (waitL ls).length := by
  unfold tasksL thereL
  split
  · rename_i h
    simp at h
    exact waitL_at h.1
  · simp

set_option maxRecDepth 100000 in
set_option maxHeartbeats 2000000 in
theorem taken_any (w : World) (a : Option Addr) (m c : Nat) (x n : Int) (ls : List Ln) (hl : ls.length = m) (h : IsLs w (.slice a m c) ls) (hm : m ≤ 40000) (ht : (waitL ls).length ≤ 50000) (hs : Rises ls) :
    Calls Try.prog 36 #[.slice a m c, .int .i64 x, .int .i64 n] w fun e w' => ∃ a1 c1 a2 c2, e = .returned (.tuple #[.slice a1 (takenL x n ls).length c1, .slice a2 (firstL x n ls).length c2]) ∧ FreshL w.heap.size w' (.slice a1 (takenL x n ls).length c1) (takenL x n ls) ∧ Own w.heap.size w' (.slice a2 (firstL x n ls).length c2) (firstL x n ls) ∧ Below w.heap.size w w' := by
  have hb1 : Below w.heap.size w (w.alloc (.cells #[.int .i64 n] 3)) := (Below.refl _ _).alloc (Nat.le_refl _) _
  have hb2 : Below w.heap.size w ((w.alloc (.cells #[.int .i64 n] 3)).alloc (.cells #[.slice none 0 0] 34)) := hb1.alloc (by simp) _
  have hN : ((w.alloc (.cells #[.int .i64 n] 3)).alloc (.cells #[.slice none 0 0] 34)).heap[w.heap.size]? = some (.cells #[.int .i64 n] 3 (0, 0)) := keep_alloc (new_block w _) _
  have hF : ((w.alloc (.cells #[.int .i64 n] 3)).alloc (.cells #[.slice none 0 0] 34)).heap[w.heap.size + 1]? = some (.cells #[.slice none 0 0] 34 (0, 0)) := by
    have := new_block (w.alloc (.cells #[.int .i64 n] 3)) (.cells #[.slice none 0 0] 34)
    rw [World.size_alloc] at this
    exact this
  have htl := tasksL_le x ls
  have hfl : (firstL x n ls).length = takeN n (tasksL x ls).length := by unfold firstL; rw [List.length_take]; have := takeN_le n (tasksL x ls).length; omega
  have HC := hide (changed_any w _ a m c ls hl h hb2 hm ht hs x 48 enters48 #[.pointer (some ⟨w.heap.size, 0, none⟩), .pointer (some ⟨w.heap.size + 1, 0, none⟩)] ((tasksL x ls).drop (takeN n (tasksL x ls).length)) (by rw [List.length_drop]; omega) (HoldsI w.heap.size (w.heap.size + 1) (firstL x n ls).length (firstL x n ls)) HoldsI.steady (fun W a' c' hW hi => by
    refine (taken1_any W a' _ c' w.heap.size (w.heap.size + 1) n (tasksL x ls) hi (keep_below hN hW) (keep_below hF hW) (by omega)).mono ?_
    rintro e W' ⟨a2, c2, rfl, h1, h2, h3⟩
    refine ⟨a2, c2, by rw [List.length_drop], by rw [List.length_drop]; exact h1, (by rw [hfl]; obtain ⟨ah, ch, h4, h5⟩ := h2; exact ⟨ah, ch, h4, h5.base (Nat.le_trans hb2.size hW.size)⟩), h3.os, h3.tape, h3.output, h3.size, fun k hk hh => h3.block k hk ?_⟩
    simp at hh
    omega))
  obtain ⟨L, hL⟩ : ∃ L, takenL x n ls = L := ⟨_, rfl⟩
  rw [show setL x ((tasksL x ls).drop (takeN n (tasksL x ls).length)) ls = L from hL] at HC
  rw [hL]
  obtain ⟨f, hf⟩ : ∃ f, firstL x n ls = f := ⟨_, rfl⟩
  rw [hf] at HC ⊢
  obtain ⟨ln, hln⟩ : ∃ k, L.length = k := ⟨_, rfl⟩
  obtain ⟨fn, hfn⟩ : ∃ k, f.length = k := ⟨_, rfl⟩
  rw [hln, hfn] at HC ⊢
  clear h hl ht hs htl hfl hL hf hln hfn hN hF hb1 hb2
  go_enter Try.func36, Try.ntmps36
  go_upto_region 3 with (go_at_call 32; refine (unhide HC).mono ?_; rintro e w3 ⟨a3, c3, rfl, hi3, ⟨af, cf, hf3, ho3⟩, hb3⟩; have HI3 := hide (hi3.base (base' := w.heap.size) (by rw [World.size_alloc, World.size_alloc]; omega)); have HO3 := hide ho3; have HB3 := hide hb3; obtain ⟨f0, _, _⟩ := block1 hf3; clear hi3 ho3 hb3 hf3)
  go_quiet (fail)
  go_wp2_with fail
  go_ret2
  exact ⟨a3, c3, af, cf, rfl, (unhide HI3).below (below_drewN (Below.refl _ _) _), (unhide HO3).below (below_drewN (Below.refl _ _) _), below_drewN (unhide HB3) _⟩
end Go.Proofs.Ytjlcfdhghohccaa
