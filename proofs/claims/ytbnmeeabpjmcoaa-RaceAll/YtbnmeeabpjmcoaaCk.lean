/-
  order.lastTask, slices.Clone, order.Clocks.
-/
import Derived.Test.YtbnmeeabpjmcoaaU
namespace Go.Proofs.Ytbnmeeabpjmcoaa
open Go.RowKit

def lastStep (m : Int) (e : Ev) : Int := if e.op = 11 then max (max m e.task) e.val else max m e.task
def lastL (l : List Ev) : Int := l.foldl lastStep 0
theorem last_take (l : List Ev) {j : Nat} (h : j < l.length) : lastL (l.take (j + 1)) = lastStep (lastL (l.take j)) (l.getD j ev0) := by
  have e : l.take (j + 1) = l.take j ++ [l.getD j ev0] := by
    rw [List.take_add_one, List.getElem?_eq_getElem h]
    simp [List.getElem?_eq_getElem h]
  rw [lastL, e, List.foldl_append]
  rfl
theorem lastStep_ge (m : Int) (e : Ev) : m ≤ lastStep m e ∧ e.task ≤ lastStep m e := by unfold lastStep; split <;> omega
theorem last_mono (l : List Ev) {i n : Nat} (h : i ≤ n) (hn : n ≤ l.length) : lastL (l.take i) ≤ lastL (l.take n) := by
  induction n with
  | zero =>
    obtain rfl : i = 0 := by omega
    exact Int.le_refl _
  | succ n ih =>
    by_cases e : i = n + 1
    · subst e; exact Int.le_refl _
    · rw [last_take l (by omega)]
      exact Int.le_trans (ih (by omega) (by omega)) (lastStep_ge _ _).1
theorem last_task (l : List Ev) {j : Nat} (h : j < l.length) : (l.getD j ev0).task ≤ lastL l := by
  have h1 := (lastStep_ge (lastL (l.take j)) (l.getD j ev0)).2
  rw [← last_take l h] at h1
  have h2 := last_mono l (show j + 1 ≤ l.length by omega) (Nat.le_refl _)
  rw [List.take_length] at h2
  omega
theorem GoodT.last {hs : List Int} {l : List Ev} (h : GoodT hs l) : ∀ n, n ≤ l.length → 0 ≤ lastL (l.take n) ∧ lastL (l.take n) ≤ 64 := by
  intro n
  induction n with
  | zero => intro _; rw [List.take_zero]; exact ⟨Int.le_refl _, by decide⟩
  | succ n ih =>
    intro hn
    have h1 := ih (by omega)
    obtain ⟨h2, -, -, -, h3⟩ := wrong_ok (h.e n (by omega))
    rw [last_take l (by omega)]
    unfold lastStep
    split
    · next e => have := h3 e; omega
    · omega
theorem run_max2w (w : World) (ts : Array TypeId) (t : TypeId) (x y : Int) : (Builtin.max_ ts t #[.int .i64 x, .int .i64 y]).run Try.prog w = .ok (.int .i64 (max x y)) w := run_max2 w ts t x y

set_option maxRecDepth 100000 in
set_option maxHeartbeats 4000000 in
theorem lastTask_any (w : World) (a0 : Option Addr) (n0 c0 : Nat) (l : List Ev) (hl : IsL KE w (.slice a0 n0 c0) l) (hn : n0 ≤ 2000) :
    Calls Try.prog 33 #[.slice a0 n0 c0] w fun e w' => e = .returned (.int .i64 (lastL l)) ∧ Below w.heap.size w w' := by
  have HN := hide hl.len; have HL := hide hl
  clear hl
  go_enter Try.func33, Try.ntmps33
  go_upto_region 3 with fail
  go_loopw [3, 8] (fun s3 s8 W => ∃ (j : Nat) (m : Int), j ≤ n0 ∧ s8 = .int .i64 j ∧ s3 = .int .i64 m ∧ Hid (lastL (l.take j) = m) ∧ Hid (Below w.heap.size w W)) (fun _ s8 _ => n0 - (intOf s8).toNat)
  case atStart => exact ⟨0, 0, Nat.zero_le _, rfl, rfl, by show _ = _; rw [List.take_zero]; rfl, hide (Below.refl _ _)⟩
  case round =>
    obtain ⟨j, m, hj, rfl, rfl, HM, HX⟩ := hrel
    by_cases hlt : j < n0
    · obtain ⟨b, off, rfl, hbl, hli⟩ := (unhide HL).opens ke (unhide HN) (by omega)
      have hlt2 : j < l.length := by rw [unhide HN]; exact hlt
      obtain ⟨⟨tk, op, ob, vl⟩, ex⟩ : ∃ X, l.getD j ev0 = X := ⟨_, rfl⟩
      obtain ⟨k0, k1, k2, k3⟩ := (hli.below (unhide HX) hbl).ev hlt2 ex
      have hst := last_take l hlt2
      rw [unhide HM, ex] at hst
      unfold lastStep at hst
      dsimp only at hst
      have i0 : (0 : Int) ≤ (j : Int) := by omega
      have i4 : (j : Int) < (n0 : Int) := by omega
      have hw1 : IntKind.i64.wrap ((j : Int) + 1) = (j : Int) + 1 := wrapi (by omega) (by omega)
      have HST := hide hst
      clear ex hlt2 hli hst HM
      go_upto_region 5 with fail
      clear k0 k1 k2 k3
      have HX3 := hide ((unhide HX).alloc (unhide HX).size (.cells #[.int .i64 tk, .int .i64 op, .int .i64 ob, .int .i64 vl] 41)); have HZ3 := hide (new_block wr (.cells #[.int .i64 tk, .int .i64 op, .int .i64 ob, .int .i64 vl] 41))
      obtain ⟨Z, eZ⟩ : ∃ X, wr.heap.size = X := ⟨_, rfl⟩
      obtain ⟨W3, e3⟩ : ∃ X, wr.alloc (.cells #[.int .i64 tk, .int .i64 op, .int .i64 ob, .int .i64 vl] 41) = X := ⟨_, rfl⟩
      rw [eZ, e3] at HZ3; rw [e3] at HX3; rw [eZ, e3]
      clear eZ e3 HX
      obtain ⟨⟨z0, z1, z2, z3⟩, -, zl⟩ := block4 (unhide HZ3)
      have hm1 := fun W ts ty => run_max2w W ts ty m tk
      obtain ⟨m1, em1⟩ : ∃ X, max m tk = X := ⟨_, rfl⟩
      simp only [em1] at hm1
      rw [em1] at HST
      have hm2 := fun W ts ty => run_max2w W ts ty m1 vl
      obtain ⟨m2, em2⟩ : ∃ X, max m1 vl = X := ⟨_, rfl⟩
      simp only [em2] at hm2
      rw [em2] at HST
      clear em1 em2
      by_cases ho : op = 11
      · have b1 : (op == 11) = true := by simpa using ho
        have HS2 : Hid (lastL (l.take (j + 1)) = m2) := by have := unhide HST; rwa [if_pos ho] at this
        clear HST ho
        go_wp2_with fail
        go_roundw
        case rel => exact ⟨j + 1, m2, by omega, by go_num, rfl, HS2, HX3⟩
        case measure => simp [intOf]; omega
      · have b1 : (op == 11) = false := by simpa using ho
        have HS2 : Hid (lastL (l.take (j + 1)) = m1) := by have := unhide HST; rwa [if_neg ho] at this
        clear HST ho
        go_wp2_with fail
        go_roundw
        case rel => exact ⟨j + 1, m1, by omega, by go_num, rfl, HS2, HX3⟩
        case measure => simp [intOf]; omega
    · obtain rfl : j = n0 := by omega
      have i4 : ¬ (j : Int) < (j : Int) := by omega
      have HM2 : Hid (lastL l = m) := by have := unhide HM; rwa [List.take_of_length_le (by rw [unhide HN]; exact Nat.le_refl _)] at this
      clear HM hlt hj
      go_wp2_with fail
      go_ret
      refine ⟨?_, unhide HX⟩
      rw [unhide HM2]
      first | rfl | simp

theorem own_some {base : Nat} {w : World} {a : Option Addr} {m c : Nat} {xs : List Int} (h : Own KI base w (.slice a m c) xs) (hm : 0 < m) : ∃ g, a = some ⟨g, 0, none⟩ ∧ base ≤ g ∧ g < w.heap.size := by
  have hl := h.isl.len
  have h' : w.ownsRow base KI.e KI.k (.slice a m c) xs.length (xs.flatMap KI.f) := h
  rcases h'.2 with ⟨h1, h2⟩ | ⟨g, cap, cur, h1, hg, hh, _⟩
  · omega
  · cases h1
    exact ⟨g, rfl, hg, (Array.getElem?_eq_some_iff.1 hh).1⟩

set_option maxRecDepth 100000 in
set_option maxHeartbeats 4000000 in
theorem clone_any (w : World) (b off m c : Nat) (xs : List Int) (hx : IsL KI w (.slice (some ⟨b, off, none⟩) m c) xs) (hm : m ≤ 64) (hm0 : 0 < m) :
    Calls Try.prog 35 #[.slice (some ⟨b, off, none⟩) m c] w fun e w' => ∃ g c', e = .returned (.slice (some ⟨g, 0, none⟩) m c') ∧ IsL KI w' (.slice (some ⟨g, 0, none⟩) m c') xs ∧ w.heap.size ≤ g ∧ g < w'.heap.size ∧ Below w.heap.size w w' := by
  have hl := hx.len
  have HOW : Hid (Own KI w.heap.size (w.alloc (.cells #[] 3)) (.slice (some ⟨w.heap.size, 0, none⟩) 0 0) []) := own_empty (K := KI) w
  have HB : Hid (Below w.heap.size w (w.alloc (.cells #[] 3))) := (Below.refl _ _).alloc (Nat.le_refl _) _
  have HI : Hid (IsL KI (w.alloc (.cells #[] 3)) (.slice (some ⟨b, off, none⟩) m c) xs) := hx.below ((Below.refl _ _).alloc (Nat.le_refl _) _)
  have HLN : Hid (([] : List Int).length + xs.length = m) := by show _ = _; rw [hl]; simp
  have hnil : ∀ w : World, (binOp .eql 23 (.slice (some ⟨b, off, none⟩) m c) (.slice none 0 0)).run Try.prog w = .ok (.bool false) w := fun w => by first | rfl | kernel_rfl | simp [binOp, go_sem]
  clear hx hl
  go_enter Try.func35, Try.ntmps35
  go_upto_region 3 with fail
  go_wp2_with (refine wpList_append ki rfl (.tmp 5) (.tmp 6) rfl w.heap.size _ [] rfl (unhide HOW) _ xs rfl (unhide HI) m (unhide HLN) (by show m * 8 ≤ 140737488355328; omega) (unhide HB).size ?_; intro a' c' w' ho hg; have HO2 := hide ho; have HB2 := hide ((unhide HB).grown hg (unhide HB).size (fun k hk => ((unhide HOW).lt k hk).1)); clear ho hg)
  go_ret
  obtain ⟨g, rfl, hg1, hg2⟩ := own_some (unhide HO2) hm0
  exact ⟨g, c', rfl, (unhide HO2).isl, hg1, hg2, unhide HB2⟩

/-- What a row of an answer of Clocks has. -/
def rowL (hs : List Int) (l : List Ev) (m i : Nat) : List Int := (List.range m).map (ckAt hs l i)
theorem rowL_len (hs : List Int) (l : List Ev) (m i : Nat) : (rowL hs l m i).length = m := by unfold rowL; simp
theorem rowL_get (hs : List Int) (l : List Ev) {m i a : Nat} (h : a < m) : (rowL hs l m i).getD a 0 = ckAt hs l i a := by unfold rowL; simp [h]
/-- Rows of numbers, of which the first are told. -/
structure Rows2 (lo : Nat) (w : World) (G n : Nat) (f : Nat → List Int) (m j : Nat) : Prop where
  there : w.there G 0 n
  lt : G < w.heap.size
  row : ∀ i, i < j → ∃ b c, w.cell? ⟨G, i, none⟩ = some (.slice (some ⟨b, 0, none⟩) m c) ∧ b ≠ G ∧ b < w.heap.size ∧ lo ≤ b ∧ IsL KI w (.slice (some ⟨b, 0, none⟩) m c) (f i)
theorem Rows2.below {lo : Nat} {w w' : World} {G n m j : Nat} {f : Nat → List Int} (h : Rows2 lo w G n f m j) (hb : Below w.heap.size w w') : Rows2 lo w' G n f m j := by
  refine ⟨there_keep h.there (hb.block G h.lt), Nat.lt_of_lt_of_le h.lt hb.size, fun i hi => ?_⟩
  obtain ⟨b, c, h1, h2, h3, h5, h4⟩ := h.row i hi
  exact ⟨b, c, cell_of h1 (hb.block G h.lt), h2, Nat.lt_of_lt_of_le h3 hb.size, h5, h4.below hb⟩
theorem Rows2.aside {lo : Nat} {w w' : World} {G n m j : Nat} {f : Nat → List Int} (h : Rows2 lo w G n f m j) (hs : w.heap.size ≤ w'.heap.size) (hG : lo ≤ G) (hm : 0 < n → 0 < m) (hj : j ≤ n) (hk : ∀ k, lo ≤ k → w'.heap[k]? = w.heap[k]?) : Rows2 lo w' G n f m j := by
  refine ⟨there_keep h.there (hk G hG), Nat.lt_of_lt_of_le h.lt hs, fun i hi => ?_⟩
  obtain ⟨b, c, h1, h2, h3, h5, h4⟩ := h.row i hi
  obtain ⟨b2, o2, e2, _, hli⟩ := h4.opens ki h4.len (hm (by omega))
  cases e2
  exact ⟨b, c, cell_of h1 (hk G hG), h2, Nat.lt_of_lt_of_le h3 hs, h5, (hli.keep (hk b h5)).isl ki h4.len h4.fits⟩
theorem Rows2.put {lo : Nat} {w : World} {G n m j b c : Nat} {f : Nat → List Int} (h : Rows2 lo w G n f m j) (hj : j < n) (hb : b ≠ G) (hl : b < w.heap.size) (hlo : lo ≤ b) (hr : IsL KI w (.slice (some ⟨b, 0, none⟩) m c) (f j)) (hm : 0 < m) : Rows2 lo (w.setCell ⟨G, j, none⟩ (.slice (some ⟨b, 0, none⟩) m c)) G n f m (j + 1) := by
  have hkeep : ∀ k, k ≠ G → (w.setCell ⟨G, j, none⟩ (.slice (some ⟨b, 0, none⟩) m c)).heap[k]? = w.heap[k]? := fun k hk => Below.heap_setCell _ _ _ _ (by simpa using hk)
  have hth := World.there_setCells h.there G j [.slice (some ⟨b, 0, none⟩) m c]
  have hset : w.setCells G j [.slice (some ⟨b, 0, none⟩) m c] = w.setCell ⟨G, j, none⟩ (.slice (some ⟨b, 0, none⟩) m c) := rfl
  rw [hset] at hth
  have hisl : ∀ b' c' xs, b' ≠ G → IsL KI w (.slice (some ⟨b', 0, none⟩) m c') xs → IsL KI (w.setCell ⟨G, j, none⟩ (.slice (some ⟨b, 0, none⟩) m c)) (.slice (some ⟨b', 0, none⟩) m c') xs := fun b' c' xs hne hi => by
    have hln := hi.len
    obtain ⟨b2, o2, e2, _, hli⟩ := hi.opens ki hln hm
    cases e2
    exact (hli.keep (hkeep b' hne)).isl ki hln hi.fits
  refine ⟨hth, by simpa [World.setCell] using h.lt, fun i hi => ?_⟩
  by_cases e : i = j
  · subst e
    have h1 := h.there i hj
    rw [Nat.zero_add] at h1
    refine ⟨b, c, ?_, hb, by simpa [World.setCell] using hl, hlo, hisl b c _ hb hr⟩
    have hth1 : w.there G i [Value.slice (some ⟨b, 0, none⟩) m c].length := fun k hk => by
      have hk0 : k = 0 := by simpa using hk
      subst hk0
      exact h1
    have := World.rangeAt_setCells_same w G i [.slice (some ⟨b, 0, none⟩) m c] hth1 0 _ rfl
    exact this
  · obtain ⟨b', c', h1, h2, h3, h5, h4⟩ := h.row i (by omega)
    have := World.rangeAt_setCells_apart (w := w) (b' := G) (o' := i) (cs := [.slice (some ⟨b', 0, none⟩) m c']) (fun k v hv => by
      have hk : k = 0 := by have := (List.getElem?_eq_some_iff.1 hv).1; simpa using this
      subst hk
      simp at hv
      subst hv
      exact h1) G j [.slice (some ⟨b, 0, none⟩) m c] (Or.inr (Or.inl (by simp; omega))) 0 _ rfl
    exact ⟨b', c', this, h2, by simpa [World.setCell] using h3, h5, hisl b' c' _ h2 h4⟩
theorem make_rows2 (n : Nat) (hn : n ≤ 2000) : ∃ A : Array Value, A.size = n ∧ ∀ w : World, (Instr.makeSlice 30 (.int .i64 (n : Int)) (.int .i64 (n : Int))).run Try.prog w = .ok (.slice (some ⟨w.heap.size, 0, none⟩) n n) (w.alloc (.cells A 23)) := by
  have hinf : (Try.prog.info? 23).map (fun i => (i.zero, i.size, i.bytes)) = some (some (.slice none 0 0), 1, 24) := by kernel_rfl
  obtain ⟨i0, hi, h0, h1, h2⟩ := info_parts hinf
  refine ⟨madeCells (Value.slice none 0 0).cells (n * i0.size), by rw [size_madeCells, h1, Nat.mul_one], fun w => ?_⟩
  have := run_makeSlice (P := Try.prog) w 30 23 i0 (.slice none 0 0) Try.underlying30 hi h0 .i64 .i64 (n : Int) (n : Int) (by omega) (by omega) (by rw [h1]; omega) (by rw [h2]; omega) (by omega)
  simpa using this

set_option maxRecDepth 100000 in
set_option maxHeartbeats 4000000 in
theorem clocks_good (w : World) (a0 : Option Addr) (n0 c0 : Nat) (a1 : Option Addr) (n1 c1 : Nat) (l : List Ev) (hs : List Int) (hl : IsL KE w (.slice a0 n0 c0) l) (hh : IsL KI w (.slice a1 n1 c1) hs) (hg : GoodT hs l) (m : Nat) (hm : lastL l = (m : Int)) :
    Calls Try.prog 13 #[.slice a0 n0 c0, .slice a1 n1 c1] w fun e w' => ∃ G, e = .returned (.tuple #[.slice (some ⟨G, 0, none⟩) n0 n0, .agg #[.int .i64 0, .int .i64 0]]) ∧ Rows2 (w.heap.size + 1) w' G n0 (rowL hs l m) m n0 ∧ w.heap.size + 1 ≤ G ∧ Below w.heap.size w w' := by
  have hln := hl.len
  have hn : n0 ≤ 2000 := by have := hg.n; omega
  have hm64 : m ≤ 64 := by have := (hg.last l.length (Nat.le_refl _)).2; rw [List.take_length, hm] at this; omega
  have hmp : 0 < n0 → 0 < m := fun h0 => by have h1 := last_task l (show 0 < l.length by omega); have h2 := (hg.ev (show 0 < l.length by omega)).t1; omega
  obtain ⟨A, hA, hmk⟩ := make_rows2 n0 (by omega)
  have HAL : Hid (∀ W : World, (W.alloc (.cells A 23)).there W.heap.size 0 n0) := fun W => there_block (new_block W _) (by omega)
  have HCK : Hid (∀ W, Below w.heap.size w W → Calls Try.prog 12 #[.slice a0 n0 c0, .slice a1 n1 c1] W fun e w' => e = .returned (.agg #[.int .i64 0, .int .i64 0]) ∧ Below W.heap.size W w') := fun W hW => by
    have := check_any W a0 n0 c0 a1 n1 c1 l hs (hl.below hW) (hh.below hW)
    rwa [hg.zero] at this
  have HLT : Hid (∀ W, Below w.heap.size w W → Calls Try.prog 33 #[.slice a0 n0 c0] W fun e w' => e = .returned (.int .i64 (m : Int)) ∧ Below W.heap.size W w') := fun W hW => by
    have := lastTask_any W a0 n0 c0 l (hl.below hW) (by omega)
    rwa [hm] at this
  have HCO : Hid (∀ W, Below w.heap.size w W → Calls Try.prog 34 #[.slice a0 n0 c0, .slice a1 n1 c1] W fun e w' => ∃ G, e = .returned (.slice (some ⟨G, 0, none⟩) n0 n0) ∧ CkRow w' G n0 (ckAt hs l) n0 ∧ W.heap.size ≤ G ∧ G < w'.heap.size ∧ Below W.heap.size W w') := fun W hW =>
    (clocksOf_any W a0 n0 c0 a1 n1 c1 l hs (hl.below hW) (hh.below hW) hg).mono fun e w' ⟨G, h1, h2, h5, h3, h4⟩ => ⟨G, h1, h2, h5, h3, h4⟩
  have HX := hide ((Below.refl w.heap.size w).alloc (Nat.le_refl _) (.cells #[.int .i64 0, .int .i64 0] 28))
  have HQ := hide (new_block w (.cells #[.int .i64 0, .int .i64 0] 28))
  obtain ⟨W0, e0⟩ : ∃ X, w.alloc (.cells #[.int .i64 0, .int .i64 0] 28) = X := ⟨_, rfl⟩
  rw [e0] at HX HQ
  have HE := hide e0
  have HMP := hide hmp
  clear e0 hl hh hg hln hm hA hmp
  go_enter Try.func13, Try.ntmps13
  go_upto_region 1 with fail
  rw [unhide HE]
  clear HE
  go_upto_region 2 with (go_at_call 12; refine (unhide HCK _ (unhide HX)).mono ?_; rintro e w1 ⟨rfl, hb1⟩; have HX1 := hide (Below.next (unhide HX) hb1 (Nat.le_refl _)); have HQ1 := hide (keep_below (unhide HQ) hb1); clear hb1)
  have HX2 := hide ((unhide HX1).alloc (unhide HX1).size (.cells #[.int .i64 0, .int .i64 0] 28)); have HQ2 := hide (keep_alloc (unhide HQ1) (.cells #[.int .i64 0, .int .i64 0] 28)); have HF2 := hide (new_block w1 (.cells #[.int .i64 0, .int .i64 0] 28))
  have hFl : w.heap.size < w1.heap.size := size_of (unhide HQ1)
  obtain ⟨F, eF⟩ : ∃ X, w1.heap.size = X := ⟨_, rfl⟩
  obtain ⟨W2, e2⟩ : ∃ X, w1.alloc (.cells #[.int .i64 0, .int .i64 0] 28) = X := ⟨_, rfl⟩
  rw [eF, e2] at HF2; rw [e2] at HX2 HQ2; rw [eF] at hFl; rw [eF, e2]
  clear eF e2 HX HQ HX1 HQ1 HCK
  obtain ⟨g0, g1, gf0, gf1, gl⟩ := block2 (unhide HF2)
  go_upto_region 5 with (go_at_call 33; (with_reducible refine Calls.mono (unhide HLT _ (unhide HX2)) ?_); rintro e w3 ⟨rfl, hb3⟩; have HX3 := hide (Below.next (unhide HX2) hb3 (Nat.le_refl _)); have HQ3 := hide (keep_below (unhide HQ2) hb3); clear hb3 g0 g1 gf0 gf1 gl)
  go_upto_region 6 with fail
  have hG0 : w.heap.size < w3.heap.size := size_of (unhide HQ3)
  have HX4 := hide ((unhide HX3).alloc (unhide HX3).size (.cells A 23)); have HQ4 := hide (keep_alloc (unhide HQ3) (.cells A 23)); have HR4 : Hid (Rows2 (w.heap.size + 1) (w3.alloc (.cells A 23)) w3.heap.size n0 (rowL hs l m) m 0) := ⟨unhide HAL w3, by simp, fun i hi => absurd hi (Nat.not_lt_zero _)⟩
  obtain ⟨G, eG⟩ : ∃ X, w3.heap.size = X := ⟨_, rfl⟩
  obtain ⟨W4, e4⟩ : ∃ X, w3.alloc (.cells A 23) = X := ⟨_, rfl⟩
  rw [e4] at HX4 HQ4; rw [eG, e4] at HR4; rw [eG] at hG0; rw [eG, e4]
  clear eG e4 HX3 HQ3 HX2 HQ2 HF2 HAL HLT hmk
  go_upto_region 7 with (go_at_call 34; (with_reducible refine Calls.mono (unhide HCO _ (unhide HX4)) ?_); rintro e w5 ⟨G5, rfl, hr5, hg5, hl5, hb5⟩; have HX5 := hide (Below.next (unhide HX4) hb5 (Nat.le_refl _)); have HQ5 := hide (keep_below (unhide HQ4) hb5); have HR5 := hide ((unhide HR4).below hb5); have HK5 := hide hr5; have HL5 := hide hl5; have HG5 := hide (show G5 ≠ G by have h0 := (unhide HR4).lt; omega); clear hb5 hr5 hl5 hg5)
  clear HX4 HQ4 HR4 HCO
  go_loopw [27] (fun i W => ∃ j : Nat, j ≤ n0 ∧ i = .int .i64 j ∧ Hid (Rows2 (w.heap.size + 1) W G n0 (rowL hs l m) m j) ∧ Hid (W.heap[w.heap.size]? = some (.cells #[.int .i64 0, .int .i64 0] 28 (0, 0))) ∧ Hid (But G w5 W) ∧ Hid (Below w.heap.size w W)) (fun i _ => n0 - (intOf i).toNat)
  case atStart => exact ⟨0, Nat.zero_le _, rfl, HR5, HQ5, hide (But.refl _ _), HX5⟩
  case round =>
    obtain ⟨j, hj, rfl, HRj, HQj, HBj, HXj⟩ := hrel
    clear HR5 HQ5 HX5
    by_cases hlt : j < n0
    · have i0 : (0 : Int) ≤ (j : Int) := by omega
      have i4 : (j : Int) < (n0 : Int) := by omega
      have hw1 : IntKind.i64.wrap ((j : Int) + 1) = (j : Int) + 1 := wrapi (by omega) (by omega)
      have hm0 : 0 < m := unhide HMP (by omega)
      have HLJ := hide hlt
      have j0 : (0 : Int) ≤ (m : Int) := by omega
      have j1 : (m : Int) ≤ 64 := by omega
      obtain ⟨ci, eci⟩ : ∃ X, ckAt hs l j = X := ⟨_, rfl⟩
      have HRG : Hid (wr.rangeAt G5 (j * 64) (ckL ci)) := by rw [← eci]; exact range_keep ((unhide HK5).rng j hlt) ((unhide HBj).block G5 (unhide HL5) (unhide HG5))
      obtain ⟨V, eV, hBV, hZV⟩ := res_new wr
      obtain ⟨W6, e6, hB6, hZ6⟩ := res_put hBV (Nat.le_refl _) hZV ci
      have HEV := hide eV; have HZV := hide hZV; have HE6 := hide e6
      have HX6 := hide (Below.next (unhide HXj) hB6 (Nat.le_refl _)); have HQ6 := hide (keep_below (unhide HQj) hB6); have HR6 := hide ((unhide HRj).below hB6); have HB6 := hide ((unhide HBj).call hB6)
      have hG6 : G < wr.heap.size := (unhide HRj).lt
      have hQ6 : w.heap.size < wr.heap.size := size_of (unhide HQj)
      obtain ⟨Z, eZ⟩ : ∃ X, wr.heap.size = X := ⟨_, rfl⟩
      have HI6 : Hid (IsL KI W6 (.slice (some ⟨Z, 0, none⟩) m 64) (rowL hs l m j)) := by
        rw [eZ] at hZ6
        refine Lies.isl ki (fun a i u ha hu => ?_) (rowL_len _ _ _ _) (by omega)
        rw [rowL_len] at ha
        have hi0 : i = 0 := by have := (List.getElem?_eq_some_iff.1 hu).1; simpa [KI] using this
        subst hi0
        have h7 := (ck_get hZ6 (show a < 64 by omega)).1
        rw [← eci] at h7
        have hu2 : u = .int .i64 (ckAt hs l j a) := by
          have : (KI.f ((rowL hs l m j).getD a 0))[0]? = some u := hu
          rw [rowL_get hs l ha] at this
          simpa [KI] using this.symm
        rw [hu2]
        simpa [KI] using h7
      have HCL := hide (clone_any W6 Z 0 m 64 _ (unhide HI6) (by omega) hm0)
      rw [eZ] at HZV hG6 hQ6
      have HEZ := hide eZ
      clear eV hBV hZV e6 hB6 hZ6 eci eZ HQj HRj HXj HBj
      go_upto_region 9 with (first
        | (refine wpList_load_mid rfl _ _ rfl _ _ rfl (ckL ci) _ (unhide HRG) Try.und65 rfl (by rw [ckL_len]; exact Try.size65) ?_)
        | (rw [ck0_arr, unhide HEV, unhide HEZ]; rw [unhide HEZ] at HE6; refine wpList_store_mid rfl _ _ _ rfl _ _ (ckL ci).toArray rfl rfl (ckB_there (unhide HZV) _) (by simpa [ckL_len] using Try.size65) (ckL_all _) ?_; rw [unhide HE6]))
      go_wp2_with (go_at_call 35; (with_reducible refine Calls.mono (unhide HCL) ?_); rintro e w7 ⟨g, c7, rfl, hi7, hg7, hl7, hb7⟩; have HX7 := hide (Below.next (unhide HX6) hb7 (Nat.le_refl _)); have HQ7 := hide (keep_below (unhide HQ6) hb7); have HR7 := hide ((unhide HR6).below hb7); have HB7 := hide ((unhide HB6).call hb7); obtain ⟨hs7, hf7⟩ := (unhide HR7).there j (unhide HLJ); rw [Nat.zero_add] at hs7 hf7; obtain ⟨y7, hy7⟩ := Option.isSome_iff_exists.1 hs7; have HI7 := hide hi7; have HG7 := hide (show g ≠ G by have h0 := (unhide HR6).lt; omega); have HL7 := hide hl7; have HO7 := hide (show w.heap.size + 1 ≤ g by have h0 := (unhide HX6).size; have h1 := size_of (unhide HQ6); omega); clear hi7 hg7 hl7 hb7 hs7)
      go_roundw
      case rel => exact ⟨j + 1, by omega, by go_num, hide ((unhide HR7).put (unhide HLJ) (unhide HG7) (unhide HL7) (unhide HO7) (unhide HI7) hm0), hide (keep_set (unhide HQ7) (by omega)), hide ((unhide HB7).set _), hide (below_set (unhide HX7) (by omega) _)⟩
      case measure => simp [intOf]; omega
    · obtain rfl : j = n0 := by omega
      have i4 : ¬ (j : Int) < (j : Int) := by omega
      clear hlt hj
      obtain ⟨q0, q1, f0, f1, ql⟩ := block2 (unhide HQj)
      have HR8 : Hid (∀ x y, Rows2 (w.heap.size + 1) ((wr.setCell ⟨w.heap.size, 0, none⟩ x).setCell ⟨w.heap.size, 1, none⟩ y) G j (rowL hs l m) m j) := fun x y => (unhide HRj).aside (by simp [World.setCell]) (by omega) (unhide HMP) (Nat.le_refl _) (fun k hk => (Below.heap_setCell _ _ _ _ (by simp; omega)).trans (Below.heap_setCell _ _ _ _ (by simp; omega)))
      go_wp2_with fail
      exact bodyPost_ret (v := .tuple #[.slice (some ⟨G, 0, none⟩) j j, .agg #[.int .i64 0, .int .i64 0]]) (by simp [results, Try.results13, go_sem, q0, q1]) rfl ⟨G, rfl, unhide HR8 _ _, by omega, below_set2 (unhide HXj) (Nat.le_refl _) _ _⟩

end Go.Proofs.Ytbnmeeabpjmcoaa
