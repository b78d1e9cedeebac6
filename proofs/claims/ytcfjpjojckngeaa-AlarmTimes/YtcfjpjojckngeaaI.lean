/-
  A list becomes a heap: alarm.Made.
-/
import Derived.Test.YtcfjpjojckngeaaH
namespace Go.Proofs.Ytcfjpjojckngeaa
open Go.RowKit

/-- The timers at the first k places sink, the last one first. -/
def madeN : Nat → List Tm → List Tm
  | 0, ts => ts
  | k + 1, ts => madeN k (sinkL ts k)
def madeL (ts : List Tm) : List Tm := madeN ((ts.length + 2) / 4) ts
theorem madeN_length : ∀ (k : Nat) (ts : List Tm), (madeN k ts).length = ts.length
  | 0, _ => rfl
  | k + 1, ts => by rw [madeN, madeN_length k, sinkL_length]
theorem madeL_length (ts : List Tm) : (madeL ts).length = ts.length := madeN_length _ _

theorem madeF_zero {ts : List Tm} (h : (madeF ts).1 = 0) : madeF ts = (0, 0) := by
  unfold madeF at h ⊢
  split
  · rename_i h1; rw [if_pos h1] at h; exact absurd h (by decide)
  · rename_i h1; rw [if_neg h1] at h; exact firstFrom_zero h
theorem madeF_len {ts : List Tm} (h : madeF ts = (0, 0)) : ts.length ≤ 5000 := by
  apply Decidable.byContradiction
  intro h1
  unfold madeF at h
  rw [if_pos (by omega)] at h
  cases h
theorem heapF_zero {ts : List Tm} (h : (heapF ts).1 = 0) : heapF ts = (0, 0) := by
  unfold heapF at h ⊢
  split
  · rename_i h1; rw [if_pos h1] at h; exact absurd h (by decide)
  · rename_i h1; rw [if_neg h1] at h; exact firstFrom_zero h
theorem heapF_len {ts : List Tm} (h : heapF ts = (0, 0)) : ts.length ≤ 5000 := by
  apply Decidable.byContradiction
  intro h1
  unfold heapF at h
  rw [if_pos (by omega)] at h
  cases h

theorem new_block (w : World) (o : Obj) : (w.alloc o).heap[w.heap.size]? = some o := (MapKept.heap_alloc w o).1
theorem keep_below {w w' : World} {k : Nat} {x : Obj} (h : w.heap[k]? = some x) (hb : Below w.heap.size w w') : w'.heap[k]? = some x := (hb.block k (Array.getElem?_eq_some_iff.1 h).1).trans h
theorem keep_alloc {w : World} {k : Nat} {x : Obj} (h : w.heap[k]? = some x) (o : Obj) : (w.alloc o).heap[k]? = some x := (Below.heap_alloc _ _ _ (Array.getElem?_eq_some_iff.1 h).1).trans h
theorem keep_but {w w' : World} {g k : Nat} {x : Obj} (h : w.heap[k]? = some x) (hb : But g w w') (hk : k ≠ g) : w'.heap[k]? = some x := (hb.block k (Array.getElem?_eq_some_iff.1 h).1 hk).trans h
theorem block2 {w : World} {R : Nat} {x y : Value} {t : TypeId} (h : w.heap[R]? = some (.cells #[x, y] t (0, 0))) : w.cell? ⟨R, 0, none⟩ = some x ∧ w.cell? ⟨R, 1, none⟩ = some y ∧ w.frozen? ⟨R, 0, none⟩ = false ∧ w.frozen? ⟨R, 1, none⟩ = false ∧ R < w.heap.size := by
  refine ⟨?_, ?_, ?_, ?_, (Array.getElem?_eq_some_iff.1 h).1⟩
  · simp only [World.cell?, h]; rfl
  · simp only [World.cell?, h]; rfl
  · simp only [World.frozen?, h]; rfl
  · simp only [World.frozen?, h]; rfl
theorem Row.set2 {w : World} {g c r : Nat} {ts : List Tm} (h : Row w g c ts) (hr : g ≠ r) (x y : Value) : Row ((w.setCell ⟨r, 0, none⟩ x).setCell ⟨r, 1, none⟩ y) g c ts :=
  h.keep (by rw [Below.heap_setCell _ _ _ _ (by simpa using hr), Below.heap_setCell _ _ _ _ (by simpa using hr)])
theorem Own.set2 {base : Nat} {w : World} {v : Value} {ts : List Tm} (h : Own base w v ts) {r : Nat} (hr : r < base) (x y : Value) : Own base ((w.setCell ⟨r, 0, none⟩ x).setCell ⟨r, 1, none⟩ y) v ts :=
  h.keep fun k hk _ => (Below.heap_setCell _ _ _ _ (by simp; omega)).trans (Below.heap_setCell _ _ _ _ (by simp; omega))

set_option maxRecDepth 100000 in
set_option maxHeartbeats 2000000 in
theorem made_fault (w : World) (v : Value) (ts : List Tm) (h : IsTs w v ts) (hm : ts.length ≤ maxLen) (x y : Int) (hf : madeF ts = (x, y)) (hx : x ≠ 0) :
    Calls Try.prog 19 #[v] w fun e w' => e = .returned (.tuple #[.slice none 0 0, .agg #[.int .i64 x, .int .i64 y]]) ∧ Below w.heap.size w w' := by
  obtain ⟨a, c, rfl⟩ := Rd.form h
  have hx1 : (x != 0) = true := by simpa using hx
  have HI0 := hide (IsTs.below h ((Below.refl _ _).alloc (Nat.le_refl _) (.cells #[.int .i64 0, .int .i64 0] 28)))
  have HCM : Hid (∀ W, IsTs W (.slice a ts.length c) ts → Calls Try.prog 31 #[.slice a ts.length c] W fun e w' => e = .returned (.agg #[.int .i64 x, .int .i64 y]) ∧ Below W.heap.size W w') := fun W hW => by
    have := cmade_any W _ ts hW hm
    rw [hf] at this
    exact this
  clear h hf hx hm
  go_enter Try.func19, Try.ntmps19
  go_upto_region 2 with (go_at_call 31; refine (unhide HCM _ (unhide HI0)).mono ?_; rintro e w1 ⟨rfl, hb1⟩; have HX1 := hide (hb1.mono (show w.heap.size + 1 ≤ _ by simp)); clear hb1)
  have TB := hide (new_block w1 (.cells #[.int .i64 x, .int .i64 y] 28))
  have XB := hide ((unhide HX1).alloc (Nat.le_trans (by simp) (unhide HX1).size) (.cells #[.int .i64 x, .int .i64 y] 28))
  obtain ⟨T, hT⟩ : ∃ T, w1.heap.size = T := ⟨_, rfl⟩
  obtain ⟨W2, hW2⟩ : ∃ W, w1.alloc (.cells #[.int .i64 x, .int .i64 y] 28) = W := ⟨_, rfl⟩
  rw [hT, hW2] at TB
  rw [hW2] at XB
  rw [hT, hW2]
  have HTS := hide (show w.heap.size < T by rw [← hT]; exact Nat.lt_of_lt_of_le (by simp) (unhide HX1).size)
  clear hT hW2
  obtain ⟨t0, t1, t2, t3, _⟩ := block2 (unhide TB)
  obtain ⟨r0, r1, f0, f1⟩ := res1 (unhide XB)
  have n0 : w.heap.size ≠ T := Nat.ne_of_lt (unhide HTS)
  have n1 : T ≠ w.heap.size := Ne.symm n0
  go_wp2_with fail
  go_region
  all_goals go_wp2_with fail
  all_goals exact bodyPost_ret (v := .tuple #[.slice none 0 0, .agg #[.int .i64 x, .int .i64 y]]) (by simp [results, Try.results19, go_sem, r0, r1]) rfl ⟨rfl, (end1 (unhide XB)).drew⟩

set_option maxRecDepth 100000 in
set_option maxHeartbeats 2000000 in
theorem made_ok (w : World) (a : Option Addr) (n c : Nat) (ts : List Tm) (hl : ts.length = n) (h : IsTs w (.slice a n c) ts) (hf : madeF ts = (0, 0)) :
    Calls Try.prog 19 #[.slice a n c] w fun e w' => ∃ a' c', e = .returned (.tuple #[.slice a' n c', .agg #[.int .i64 0, .int .i64 0]]) ∧ Own w.heap.size w' (.slice a' n c') (madeL ts) ∧ Below w.heap.size w w' := by
  have hn : n ≤ 5000 := by rw [← hl]; exact madeF_len hf
  have HI0 := hide (IsTs.below h ((Below.refl _ _).alloc (Nat.le_refl _) (.cells #[.int .i64 0, .int .i64 0] 28)))
  have HCM : Hid (∀ W, IsTs W (.slice a n c) ts → Calls Try.prog 31 #[.slice a n c] W fun e w' => e = .returned (.agg #[.int .i64 0, .int .i64 0]) ∧ Below W.heap.size W w') := fun W hW => by
    have := cmade_any W _ ts hW (by rw [hl]; unfold maxLen; omega)
    rw [hf] at this
    exact this
  have HFR : Hid (∀ W, IsTs W (.slice a n c) ts → Calls Try.prog 27 #[.slice a n c] W fun e w' => ∃ a' c', e = .returned (.slice a' n c') ∧ Own W.heap.size w' (.slice a' n c') ts ∧ Below W.heap.size W w') := fun W hW => by
    have := fresh_any W _ ts hW (by omega)
    rw [hl] at this
    exact this
  obtain ⟨R, hR⟩ : ∃ R, R = madeL ts := ⟨_, rfl⟩
  rw [← hR]
  obtain ⟨m, hm⟩ : ∃ m, (n + 2) / 4 = m := ⟨_, rfl⟩
  have HE : Hid (R = madeN m ts) := by rw [hR, ← hm, ← hl]; rfl
  have HHB : Hid (∀ W, Calls Try.prog 32 #[.int .i64 n] W fun e w' => e = .returned (.int .i64 (m : Int)) ∧ w' = W) := fun W => by
    have := haveBelow_any W n (by omega)
    rw [hm] at this
    exact this
  have HM := hide hm
  have hmn : m ≤ 1250 := by omega
  have HL := hide hl
  have HV := hide h
  clear h hf hR hl hm
  go_enter Try.func19, Try.ntmps19
  go_upto_region 2 with (go_at_call 31; refine (unhide HCM _ (unhide HI0)).mono ?_; rintro e w1 ⟨rfl, hb1⟩; have HX1 := hide (hb1.mono (show w.heap.size + 1 ≤ _ by simp)); clear hb1)
  have TB := hide (new_block w1 (.cells #[.int .i64 0, .int .i64 0] 28))
  have XB := hide ((unhide HX1).alloc (Nat.le_trans (by simp) (unhide HX1).size) (.cells #[.int .i64 0, .int .i64 0] 28))
  obtain ⟨T, hT⟩ : ∃ T, w1.heap.size = T := ⟨_, rfl⟩
  obtain ⟨W2, hW2⟩ : ∃ W, w1.alloc (.cells #[.int .i64 0, .int .i64 0] 28) = W := ⟨_, rfl⟩
  rw [hT, hW2] at TB
  rw [hW2] at XB
  rw [hT, hW2]
  have HTS := hide (show w.heap.size < T by rw [← hT]; exact Nat.lt_of_lt_of_le (by simp) (unhide HX1).size)
  clear hT hW2
  obtain ⟨t0, t1, t2, t3, _⟩ := block2 (unhide TB)
  obtain ⟨r0, r1, f0, f1⟩ := res1 (unhide XB)
  have HI2 := hide (IsTs.below (unhide HV) (below1 (unhide XB)))
  have wh : IntKind.i64.wrap ((m : Int) - 1) = (m : Int) - 1 := by simp [IntKind.wrap, IntKind.bits, IntKind.signed]; omega
  go_wp2_with (first
    | (go_at_call 27; refine (unhide HFR _ (unhide HI2)).mono ?_; rintro e w3 ⟨a3, c3, rfl, ho3, hb3⟩; have HO3 := hide ho3; have HB3 := hide hb3; clear ho3 hb3)
    | (go_at_call 32; refine (unhide HHB _).mono ?_; rintro e w3 ⟨rfl, rfl⟩))
  clear t0 t1 t2 t3 r0 r1 f0 f1
  have HX3 := hide (next1 (unhide XB) (unhide HB3))
  have HRB := hide ((unhide HX3).block w.heap.size (Nat.lt_succ_self _) |>.trans (new_block w (.cells #[.int .i64 0, .int .i64 0] 28)))
  have HS2 := hide (show w.heap.size + 1 ≤ W2.heap.size from Nat.le_trans (by simp) (unhide XB).size)
  by_cases h2 : 2 ≤ n
  · obtain ⟨g, c', ev, hgw, hrow⟩ := (unhide HO3).row (by rw [unhide HL]; omega)
    rw [unhide HL] at ev
    cases ev
    have HW := hide hrow
    have hgs : w.heap.size ≠ g := by have := unhide HS2; omega
    clear hrow HO3
    go_loopw [6] (fun si wr => ∃ (k : Nat) (us : List Tm), si = .int .i64 ((k : Int) - 1) ∧ k ≤ m ∧ us.length = n ∧ R = madeN k us ∧ Row wr g c3 us ∧ But g w3 wr) (fun si _ => (intOf si + 1).toNat)
    case atStart => exact ⟨m, ts, rfl, Nat.le_refl _, unhide HL, unhide HE, unhide HW, But.refl _ _⟩
    case round =>
      clear HW HE
      obtain ⟨k, us, rfl, hk, hul, hE, hrow, hbut⟩ := hrel
      have HE := hide hE; have HU := hide hul; have HW := hide hrow; have HT := hide hbut
      clear hE hul hbut hrow
      cases k with
      | zero =>
        obtain ⟨r0, r1, f0, f1, _⟩ := block2 (keep_but (unhide HRB) (unhide HT) hgs)
        go_wp2_with fail
        refine bodyPost_ret (v := .tuple #[.slice (some ⟨g, 0, none⟩) n c3, .agg #[.int .i64 0, .int .i64 0]]) (by simp [results, Try.results19, go_sem, r0, r1]) rfl ⟨_, c3, rfl, ?_, ?_⟩
        · rw [unhide HE]
          have := ((unhide HW).set2 (Ne.symm hgs) (.int .i64 0) (.int .i64 0)).own (base := w.heap.size) (by have := unhide HS2; omega)
          rw [unhide HU] at this
          exact this
        · have hb := (below1 (unhide HX3)).trans ((unhide HT).below (by have := unhide HS2; omega) (below1 (unhide HX3)).size)
          exact (hb.setCell (p := ⟨w.heap.size, 0, none⟩) (Nat.le_refl _) _).setCell (p := ⟨w.heap.size, 1, none⟩) (Nat.le_refl _) _
      | succ k =>
        have e0 : ((k + 1 : Nat) : Int) - 1 = (k : Int) := by omega
        rw [e0]
        have HSK := hide (sink_any wr g c3 n k us (unhide HU) (by have := unhide HM; omega) (by omega) (unhide HW))
        have g1 : (0 : Int) ≤ (k : Int) := by omega
        have wk : IntKind.i64.wrap ((k : Int) - 1) = (k : Int) - 1 := by simp [IntKind.wrap, IntKind.bits, IntKind.signed]; omega
        clear e0
        go_wp2_with (go_at_call 33; refine (unhide HSK).mono ?_; rintro e w5 ⟨rfl, hr5, hb5⟩; have HR5 := hide hr5; have HB5 := hide hb5; clear hr5 hb5)
        go_roundw
        case rel => exact ⟨k, sinkL us k, rfl, by omega, by rw [sinkL_length]; exact unhide HU, unhide HE, unhide HR5, (unhide HT).trans (unhide HB5)⟩
        case measure => simp [intOf] <;> omega
  · obtain rfl : m = 0 := by have := unhide HM; omega
    have HOE : Hid (Own w.heap.size w3 (.slice a3 n c3) R) := by rw [unhide HE]; exact (unhide HO3).base (by have := unhide HS2; omega)
    have HOE1 : Hid (Own (w.heap.size + 1) w3 (.slice a3 n c3) R) := by rw [unhide HE]; exact (unhide HO3).base (unhide HS2)
    clear HO3
    go_loopw [6] (fun si wr => si = .int .i64 (((0 : Nat) : Int) - 1) ∧ wr = w3) (fun si _ => 0)
    case atStart => exact ⟨rfl, rfl⟩
    case round =>
      obtain ⟨rfl, rfl⟩ := hrel
      obtain ⟨r0, r1, f0, f1, _⟩ := block2 (unhide HRB)
      go_wp2_with fail
      exact bodyPost_ret (v := .tuple #[.slice a3 n c3, .agg #[.int .i64 0, .int .i64 0]]) (by simp [results, Try.results19, go_sem, r0, r1]) rfl ⟨a3, c3, rfl, ((unhide HOE1).set2 (Nat.lt_succ_self _) _ _).base (Nat.le_succ _), end1 (unhide HX3)⟩
end Go.Proofs.Ytcfjpjojckngeaa
