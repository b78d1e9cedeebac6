/-
  alarm.Check: what is wrong with a heap.
-/
import Derived.Test.YtcfjpjojckngeaaB
namespace Go.Proofs.Ytcfjpjojckngeaa
open Go.RowKit

/-- The first place whose code is not 0, of so many from i on; (0, 0) where there is none. -/
def firstFrom (W : Nat → Int) : Nat → Nat → Int × Int
  | 0, _ => (0, 0)
  | f + 1, i => if W i = 0 then firstFrom W f (i + 1) else (W i, (i : Int))
theorem firstFrom_next {W : Nat → Int} {n j : Nat} (hj : j < n) (h : W j = 0) : firstFrom W (n - j) j = firstFrom W (n - (j + 1)) (j + 1) := by
  have e : n - j = (n - (j + 1)) + 1 := by omega
  rw [e, firstFrom, if_pos h]
theorem firstFrom_here {W : Nat → Int} {n j : Nat} (hj : j < n) (h : W j ≠ 0) : firstFrom W (n - j) j = (W j, (j : Int)) := by
  have e : n - j = (n - (j + 1)) + 1 := by omega
  rw [e, firstFrom, if_neg h]
theorem firstFrom_none {W : Nat → Int} {n j : Nat} (hj : n ≤ j) : firstFrom W (n - j) j = (0, 0) := by
  have e : n - j = 0 := by omega
  rw [e, firstFrom]
theorem firstFrom_zero {W : Nat → Int} : ∀ {f i : Nat}, (firstFrom W f i).1 = 0 → firstFrom W f i = (0, 0)
  | 0, _, _ => rfl
  | f + 1, i, h => by
    rw [firstFrom] at h ⊢
    split
    · rename_i h1; rw [if_pos h1] at h; exact firstFrom_zero h
    · rename_i h1; rw [if_neg h1] at h; exact absurd h h1
theorem firstFrom_each {W : Nat → Int} : ∀ {f i : Nat}, (firstFrom W f i).1 = 0 → ∀ j, i ≤ j → j < i + f → W j = 0
  | 0, _, _, j, h1, h2 => by omega
  | f + 1, i, h, j, h1, h2 => by
    rw [firstFrom] at h
    split at h
    · rename_i h3
      by_cases e : j = i
      · subst e; exact h3
      · exact firstFrom_each h j (by omega) (by omega)
    · rename_i h3; exact absurd h h3
theorem firstFrom_all {W : Nat → Int} : ∀ {f i : Nat}, (∀ j, i ≤ j → j < i + f → W j = 0) → firstFrom W f i = (0, 0)
  | 0, _, _ => rfl
  | f + 1, i, h => by
    rw [firstFrom, if_pos (h i (Nat.le_refl _) (by omega))]
    exact firstFrom_all fun j h1 h2 => h j (by omega) (by omega)
theorem ret_fault {a b : Int} {x : Int × Int} (h : x = (a, b)) : Ending.returned (.agg #[.int .i64 a, .int .i64 b]) = .returned (faultV x) := by rw [h]; rfl

/-- What is wrong with the timer at a place. -/
def heapW (ts : List Tm) (j : Nat) : Int := if oor (tAt ts j) then 3 else if 0 < j ∧ (tAt ts j).1 < (tAt ts ((j - 1) / 4)).1 then 5 else 0
/-- What is wrong with a heap. -/
def heapF (ts : List Tm) : Int × Int := if 5000 < ts.length then (2, 0) else firstFrom (heapW ts) ts.length 0
def madeW (ts : List Tm) (j : Nat) : Int := if oor (tAt ts j) then 3 else 0
def madeF (ts : List Tm) : Int × Int := if 5000 < ts.length then (2, 0) else firstFrom (madeW ts) ts.length 0

theorem res1 {w wr : World} {x y : Value} (h : Below (w.heap.size + 1) (w.alloc (.cells #[x, y] 28)) wr) :
    wr.cell? ⟨w.heap.size, 0, none⟩ = some x ∧ wr.cell? ⟨w.heap.size, 1, none⟩ = some y ∧ wr.frozen? ⟨w.heap.size, 0, none⟩ = false ∧ wr.frozen? ⟨w.heap.size, 1, none⟩ = false := by
  have hh := (MapKept.heap_alloc w (.cells #[x, y] 28)).1
  refine ⟨?_, ?_, ?_, ?_⟩
  · rw [h.cell (p := ⟨w.heap.size, 0, none⟩) (by simp)]; simp only [World.cell?, hh]; rfl
  · rw [h.cell (p := ⟨w.heap.size, 1, none⟩) (by simp)]; simp only [World.cell?, hh]; rfl
  · rw [h.frozen (p := ⟨w.heap.size, 0, none⟩) (by simp)]; simp only [World.frozen?, hh]; rfl
  · rw [h.frozen (p := ⟨w.heap.size, 1, none⟩) (by simp)]; simp only [World.frozen?, hh]; rfl
theorem below1 {w W : World} {o : Obj} (h : Below (w.heap.size + 1) (w.alloc o) W) : Below w.heap.size w W := ((Below.refl _ _).alloc (Nat.le_refl _) o).trans (h.mono (Nat.le_succ _))
theorem next1 {w W W' : World} {o : Obj} (h : Below (w.heap.size + 1) (w.alloc o) W) (h' : Below W.heap.size W W') : Below (w.heap.size + 1) (w.alloc o) W' := h.trans (h'.mono (Nat.le_trans (by simp) h.size))
theorem next1a {w W W' : World} {o o1 : Obj} (h : Below (w.heap.size + 1) (w.alloc o) W) (h' : Below (W.alloc o1).heap.size (W.alloc o1) W') : Below (w.heap.size + 1) (w.alloc o) W' := next1 h (((Below.refl _ _).alloc (Nat.le_refl _) o1).trans (h'.mono (by simp)))
theorem end1 {w W : World} {o : Obj} {x y : Value} (h : Below (w.heap.size + 1) (w.alloc o) W) : Below w.heap.size w ((W.setCell ⟨w.heap.size, 0, none⟩ x).setCell ⟨w.heap.size, 1, none⟩ y) := ((below1 h).setCell (Nat.le_refl _) _).setCell (Nat.le_refl _) _
/-- Two cells of a new block. -/
theorem new2 {w W : World} {x y : Value} {t : TypeId} (h : Below (w.alloc (.cells #[x, y] t)).heap.size (w.alloc (.cells #[x, y] t)) W) : W.cell? ⟨w.heap.size, 0, none⟩ = some x ∧ W.cell? ⟨w.heap.size, 1, none⟩ = some y := by
  have hh := (MapKept.heap_alloc w (.cells #[x, y] t)).1
  constructor
  · rw [h.cell (p := ⟨w.heap.size, 0, none⟩) (by simp)]; simp only [World.cell?, hh]; rfl
  · rw [h.cell (p := ⟨w.heap.size, 1, none⟩) (by simp)]; simp only [World.cell?, hh]; rfl

set_option maxRecDepth 100000 in
set_option maxHeartbeats 1000000 in
theorem check_many (w : World) (a : Option Addr) (n c : Nat) (hmn : 5000 < n) (hn : n ≤ maxLen) :
    Calls Try.prog 10 #[.slice a n c] w fun e w' => e = .returned (.agg #[.int .i64 2, .int .i64 0]) ∧ Below w.heap.size w w' := by
  unfold maxLen at hn
  have h1 : (5000 : Int) < (n : Int) := by omega
  go_enter Try.func10, Try.ntmps10
  go_wp2
  exact bodyPost_ret (v := .agg #[.int .i64 2, .int .i64 0]) (by simp [results, Try.results10, go_sem]) rfl ⟨rfl, (Below.refl _ _).alloc (Nat.le_refl _) _⟩

set_option maxRecDepth 100000 in
set_option maxHeartbeats 1000000 in
theorem check_zero (w : World) (a : Option Addr) (c : Nat) :
    Calls Try.prog 10 #[.slice a 0 c] w fun e w' => e = .returned (faultV (0, 0)) ∧ Below w.heap.size w w' := by
  go_enter Try.func10, Try.ntmps10
  go_wp2
  go_loopw [11] (fun i wr => i = .int .i64 0 ∧ wr = (w.alloc (.cells #[.int .i64 0, .int .i64 0] 28))) (fun i _ => 0)
  case atStart => exact ⟨rfl, rfl⟩
  case round =>
    obtain ⟨rfl, rfl⟩ := hrel
    obtain ⟨r0, r1, f0, f1⟩ := res1 (Below.refl (w.heap.size + 1) (w.alloc (.cells #[.int .i64 0, .int .i64 0] 28)))
    go_wp2
    exact bodyPost_ret (v := .agg #[.int .i64 0, .int .i64 0]) (by simp [results, Try.results10, go_sem, r0, r1]) rfl ⟨rfl, (Below.refl _ _).alloc (Nat.le_refl _) _⟩

set_option maxRecDepth 100000 in
set_option maxHeartbeats 1000000 in
theorem check_some (w : World) (b off c n : Nat) (ts : List Tm) (hl : ts.length = n) (hmn : n ≤ 5000) (hb : b < w.heap.size) (hc : Cells w b off ts) :
    Calls Try.prog 10 #[.slice (some ⟨b, off, none⟩) n c] w fun e w' => e = .returned (faultV (firstFrom (heapW ts) n 0)) ∧ Below w.heap.size w w' := by
  have h1 : ¬ (5000 : Int) < (n : Int) := by omega
  have HC : Hid (∀ W, Below w.heap.size w W → ∀ j, j < n → W.cell? ⟨b, off + j * 2, none⟩ = some (.int .i64 (tAt ts j).1) ∧ W.cell? ⟨b, off + j * 2 + 1, none⟩ = some (.int .i64 (tAt ts j).2)) := fun W hW j hj => hc.below hW hb j (by rw [hl]; exact hj)
  obtain ⟨V, hV⟩ : ∃ V, heapW ts = V := ⟨_, rfl⟩
  rw [hV]
  have HV : Hid (∀ j, V j = heapW ts j) := fun j => by rw [hV]
  clear hc hl hV
  go_enter Try.func10, Try.ntmps10
  go_wp2
  go_loopw [11] (fun i wr => ∃ j : Nat, j ≤ n ∧ i = .int .i64 j ∧ firstFrom V n 0 = firstFrom V (n - j) j ∧ Below (w.heap.size + 1) (w.alloc (.cells #[.int .i64 0, .int .i64 0] 28)) wr) (fun i _ => n - (intOf i).toNat)
  case atStart => exact ⟨0, Nat.zero_le _, rfl, rfl, Below.refl _ _⟩
  case round =>
    obtain ⟨j, hj, rfl, hfrom, hnx⟩ := hrel
    have HF := hide hfrom
    have HX := hide hnx
    clear hfrom
    by_cases hlt : j < n
    · obtain ⟨k0, k1⟩ := unhide HC _ (below1 hnx) j hlt
      have hVj := unhide HV j
      unfold heapW at hVj
      obtain ⟨x, hx⟩ : ∃ x, (tAt ts j).1 = x := ⟨_, rfl⟩
      obtain ⟨y, hy⟩ : ∃ y, (tAt ts j).2 = y := ⟨_, rfl⟩
      have hp : tAt ts j = (x, y) := by rw [← hx, ← hy]
      rw [hx] at k0
      rw [hy] at k1
      rw [hp] at hVj
      have HPX := hide hp
      clear hx hy hp
      have i0 : (0 : Int) ≤ (j : Int) := by omega
      have i1 : (j : Int) < (n : Int) := by omega
      clear hnx
      by_cases ho : oor (x, y)
      · rw [if_pos ho] at hVj
        have ho1 : decide (oor (x, y)) = true := decide_eq_true ho
        go_upto_region 7 with (go_at_call 23; refine (oor_any _ _ _).mono ?_; rintro e w2 ⟨rfl, hb2⟩; obtain ⟨t0, t1⟩ := new2 hb2; have HX2 := hide (next1a (unhide HX) hb2); clear hb2 k0 k1)
        obtain ⟨r0, r1, f0, f1⟩ := res1 (unhide HX2)
        go_wp2_with fail
        refine bodyPost_ret (v := .agg #[.int .i64 3, .int .i64 (j : Int)]) (by simp [results, Try.results10, go_sem, r0, r1]) rfl ⟨ret_fault ?_, end1 (unhide HX2)⟩
        rw [unhide HF, firstFrom_here hlt (by rw [hVj]; decide), hVj]
      · rw [if_neg ho] at hVj
        have ho1 : decide (oor (x, y)) = false := decide_eq_false ho
        by_cases hj0 : 0 < j
        · obtain ⟨K, hK⟩ : ∃ K, (j - 1) / 4 = K := ⟨_, rfl⟩
          have hKn : K < n := by omega
          have HAB := hide (fun W => above_any W j hj0 (by unfold maxLen; omega))
          rw [hK] at hVj HAB
          clear hK
          obtain ⟨u, hu⟩ : ∃ u, (tAt ts K).1 = u := ⟨_, rfl⟩
          obtain ⟨v, hv⟩ : ∃ v, (tAt ts K).2 = v := ⟨_, rfl⟩
          have HKC : Hid (∀ W, Below w.heap.size w W → W.cell? ⟨b, off + K * 2, none⟩ = some (.int .i64 u) ∧ W.cell? ⟨b, off + K * 2 + 1, none⟩ = some (.int .i64 v)) := fun W hW => by
            have := unhide HC W hW K hKn
            rw [hu, hv] at this
            exact this
          rw [hu] at hVj
          clear hu hv
          have g1 : (0 : Int) < (j : Int) := by omega
          have g2 : (0 : Int) ≤ (K : Int) := by omega
          have g3 : (K : Int) < (n : Int) := by omega
          go_upto_region 8 with (go_at_call 23; refine (oor_any _ _ _).mono ?_; rintro e w2 ⟨rfl, hb2⟩; obtain ⟨t0, t1⟩ := new2 hb2; have HX2 := hide (next1a (unhide HX) hb2); clear hb2 k0 k1)
          obtain ⟨T, hT⟩ : ∃ T, wr.heap.size = T := ⟨_, rfl⟩
          rw [hT] at t0 t1 ⊢
          clear hT
          have HSS : Hid (∀ W, Below w2.heap.size w2 W → W.cell? ⟨T, 0, none⟩ = some (.int .i64 x) ∧ W.cell? ⟨T, 1, none⟩ = some (.int .i64 y) ∧ W.cell? ⟨b, off + K * 2, none⟩ = some (.int .i64 u) ∧ W.cell? ⟨b, off + K * 2 + 1, none⟩ = some (.int .i64 v) ∧ Below w2.heap.size w2 W) := fun W hW =>
            have hk := unhide HKC W ((below1 (unhide HX2)).trans (hW.mono (below1 (unhide HX2)).size))
            ⟨(hW.cell (p := ⟨T, 0, none⟩) (World.block_lt_of_cell? _ _ t0)).trans t0, (hW.cell (p := ⟨T, 1, none⟩) (World.block_lt_of_cell? _ _ t1)).trans t1, hk.1, hk.2, hW⟩
          by_cases hs : x < u
          · rw [if_pos ⟨hj0, hs⟩] at hVj
            have hs1 : decide (x < u) = true := decide_eq_true hs
            go_region_held3 (fun W => W.cell? ⟨T, 0, none⟩ = some (.int .i64 x) ∧ W.cell? ⟨T, 1, none⟩ = some (.int .i64 y) ∧ W.cell? ⟨b, off + K * 2, none⟩ = some (.int .i64 u) ∧ W.cell? ⟨b, off + K * 2 + 1, none⟩ = some (.int .i64 v) ∧ Below w2.heap.size w2 W)
              (first | with_reducible exact unhide HSS _ (Below.refl _ _).drew | with_reducible exact unhide HSS _ (unhide HB4))
              (first
                | (go_at_call 25; refine (unhide HAB _).mono ?_; rintro e w3 ⟨rfl, rfl⟩)
                | (go_at_call 24; refine (sooner_any _ _ _ _ _).mono ?_; rintro e w4 ⟨rfl, hb4⟩; have HB4 : Hid (Below w2.heap.size w2 w4) := Below.trans (B := w2.heap.size) (by go_split_ands; assumption) (hb4.mono (Below.size (B := w2.heap.size) (by go_split_ands; assumption))); clear hb4))
            have HX4 := hide (next1 (unhide HX2) (unhide HB4))
            obtain ⟨r0, r1, f0, f1⟩ := res1 (unhide HX4)
            clear t0 t1
            go_wp2_with fail
            refine bodyPost_ret (v := .agg #[.int .i64 5, .int .i64 (j : Int)]) (by simp [results, Try.results10, go_sem, r0, r1]) rfl ⟨ret_fault ?_, end1 (unhide HX4)⟩
            rw [unhide HF, firstFrom_here hlt (by rw [hVj]; decide), hVj]
          · rw [if_neg (fun h => hs h.2)] at hVj
            have hs1 : decide (x < u) = false := decide_eq_false hs
            go_region_held3 (fun W => W.cell? ⟨T, 0, none⟩ = some (.int .i64 x) ∧ W.cell? ⟨T, 1, none⟩ = some (.int .i64 y) ∧ W.cell? ⟨b, off + K * 2, none⟩ = some (.int .i64 u) ∧ W.cell? ⟨b, off + K * 2 + 1, none⟩ = some (.int .i64 v) ∧ Below w2.heap.size w2 W)
              (first | with_reducible exact unhide HSS _ (Below.refl _ _).drew | with_reducible exact unhide HSS _ (unhide HB4))
              (first
                | (go_at_call 25; refine (unhide HAB _).mono ?_; rintro e w3 ⟨rfl, rfl⟩)
                | (go_at_call 24; refine (sooner_any _ _ _ _ _).mono ?_; rintro e w4 ⟨rfl, hb4⟩; have HB4 : Hid (Below w2.heap.size w2 w4) := Below.trans (B := w2.heap.size) (by go_split_ands; assumption) (hb4.mono (Below.size (B := w2.heap.size) (by go_split_ands; assumption))); clear hb4))
            have HX4 := hide (next1 (unhide HX2) (unhide HB4))
            clear t0 t1
            go_wp2_with fail
            go_roundw
            case rel => exact ⟨j + 1, by omega, by go_num, (unhide HF).trans (firstFrom_next hlt hVj), unhide HX4⟩
            case measure => simp [intOf]; omega
        · rw [if_neg (fun h => hj0 h.1)] at hVj
          have hd : decide ((0 : Int) < (j : Int)) = false := by simp; omega
          go_upto_region 8 with (go_at_call 23; refine (oor_any _ _ _).mono ?_; rintro e w2 ⟨rfl, hb2⟩; obtain ⟨t0, t1⟩ := new2 hb2; have HX2 := hide (next1a (unhide HX) hb2); clear hb2 k0 k1)
          clear t0 t1
          go_wp2_with fail
          go_quiet (fail)
          have HX4 := hide (below_drewN (unhide HX2) nq)
          go_wp2_with fail
          go_roundw
          case rel => exact ⟨j + 1, by omega, by go_num, (unhide HF).trans (firstFrom_next hlt hVj), unhide HX4⟩
          case measure => simp [intOf]; omega
    · obtain ⟨r0, r1, f0, f1⟩ := res1 hnx
      clear hnx
      go_wp2
      refine bodyPost_ret (v := .agg #[.int .i64 0, .int .i64 0]) (by simp [results, Try.results10, go_sem, r0, r1]) rfl ⟨ret_fault ((unhide HF).trans (firstFrom_none (by omega))), end1 (unhide HX)⟩

theorem check_any (w : World) (v : Value) (ts : List Tm) (h : IsTs w v ts) (hn : ts.length ≤ maxLen) :
    Calls Try.prog 10 #[v] w fun e w' => e = .returned (faultV (heapF ts)) ∧ Below w.heap.size w w' := by
  unfold heapF
  by_cases h1 : 5000 < ts.length
  · rw [if_pos h1]
    obtain ⟨a, c, rfl⟩ := Rd.form h
    exact check_many w a ts.length c h1 hn
  · rw [if_neg h1]
    by_cases h0 : 0 < ts.length
    · obtain ⟨b, off, c, rfl, hb, hc⟩ := h.at h0
      exact check_some w b off c ts.length ts rfl (by omega) hb hc
    · obtain ⟨a, c, rfl⟩ := Rd.form h
      have e0 : ts.length = 0 := by omega
      rw [e0]
      exact check_zero w a c

end Go.Proofs.Ytcfjpjojckngeaa
