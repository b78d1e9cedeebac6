/-
  Instructions and programs; code.within, code.isOp, code.isAlone, code.less, code.room, code.fits; taskmillref.F.
-/
import Derived.Test.YtgeinjldjpaleaaDoorD
namespace Go.Proofs.YtgeinjldjpaleaaDoor
open Go.RowKit

/-- An instruction: its op and both arguments. -/
abbrev In := Int × Int × Int
def KC : Kind In := ⟨fun p => [.int .i64 p.1, .int .i64 p.2.1, .int .i64 p.2.2], 3, 38, 22, 24, (0, 0, 0)⟩
theorem kc : KC.Ok := by
  refine ⟨fun _ => rfl, fun x u hu => ?_, by decide, by decide, Tryd.underlying22, ?_⟩
  · simp only [KC, List.mem_cons, List.not_mem_nil, or_false] at hu; rcases hu with rfl | rfl | rfl <;> rfl
  · obtain ⟨i, hi, h0, h1, h2⟩ := info_parts (show (Tryd.prog.info? 38).map (fun i => (i.zero, i.size, i.bytes)) = some (some (.agg #[.int .i64 0, .int .i64 0, .int .i64 0]), 3, 24) by kernel_rfl)
    exact ⟨i, _, hi, h0, h1, h2, rfl⟩
theorem Lies.instr {w : World} {b off : Nat} {xs : List In} (h : Lies KC w b off xs) {j : Nat} (hj : j < xs.length) {t c u : Int} (he : xs.getD j (0, 0, 0) = (t, c, u)) :
    w.cell? ⟨b, off + j * 3, none⟩ = some (.int .i64 t) ∧ w.cell? ⟨b, off + j * 3 + 1, none⟩ = some (.int .i64 c) ∧ w.cell? ⟨b, off + j * 3 + 2, none⟩ = some (.int .i64 u) := by
  have e : xs.getD j KC.d = (t, c, u) := he
  refine ⟨?_, ?_, ?_⟩
  · have := h j 0 (.int .i64 t) hj (by rw [e]; rfl)
    simpa [KC] using this
  · have := h j 1 (.int .i64 c) hj (by rw [e]; rfl)
    simpa [KC] using this
  · have := h j 2 (.int .i64 u) hj (by rw [e]; rfl)
    simpa [KC] using this

/-- A program. -/
structure Pg where
  code : List In
  cells : Int
  pipes : List Int
  locks : Int
  groups : Int
def IsP (w : World) (v : Value) (p : Pg) : Prop := ∃ vc vp, v = .agg #[vc, .int .i64 p.cells, vp, .int .i64 p.locks, .int .i64 p.groups] ∧ IsL KC w vc p.code ∧ IsL KI w vp p.pipes
theorem IsP.below {w w' : World} {v : Value} {p : Pg} (h : IsP w v p) (hb : Below w.heap.size w w') : IsP w' v p := by
  obtain ⟨a, b, h1, h2, h3⟩ := h
  exact ⟨a, b, h1, h2.below hb, h3.below hb⟩
theorem IsP.form {w : World} {v : Value} {p : Pg} (h : IsP w v p) : ∃ a c b d, v = .agg #[.slice a p.code.length c, .int .i64 p.cells, .slice b p.pipes.length d, .int .i64 p.locks, .int .i64 p.groups] ∧ IsL KC w (.slice a p.code.length c) p.code ∧ IsL KI w (.slice b p.pipes.length d) p.pipes := by
  obtain ⟨vc, vp, h1, h2, h3⟩ := h
  obtain ⟨a, c, rfl⟩ := h2.form
  obtain ⟨b, d, rfl⟩ := h3.form
  exact ⟨_, _, _, _, h1, h2, h3⟩

theorem one_new (w : World) (o0 : Obj) : ∃ W, w.alloc o0 = W ∧ Below w.heap.size w W ∧ W.heap[w.heap.size]? = some o0 := ⟨_, rfl, (Below.refl w.heap.size w).alloc (Nat.le_refl _) o0, new_block w o0⟩
theorem block5 {w : World} {R : Nat} {x0 x1 x2 x3 x4 : Value} {t : TypeId} (h : w.heap[R]? = some (.cells #[x0, x1, x2, x3, x4] t (0, 0))) : (w.cell? ⟨R, 0, none⟩ = some x0 ∧ w.cell? ⟨R, 1, none⟩ = some x1 ∧ w.cell? ⟨R, 2, none⟩ = some x2 ∧ w.cell? ⟨R, 3, none⟩ = some x3 ∧ w.cell? ⟨R, 4, none⟩ = some x4) ∧ R < w.heap.size := by
  refine ⟨⟨?_, ?_, ?_, ?_, ?_⟩, (Array.getElem?_eq_some_iff.1 h).1⟩
  all_goals (simp only [World.cell?, h]; rfl)

set_option maxRecDepth 100000 in
theorem within_any (w : World) (x a b : Int) :
    Calls Tryd.prog 23 #[.int .i64 x, .int .i64 a, .int .i64 b] w fun e w' => e = .returned (.bool (decide (a ≤ x ∧ x ≤ b))) ∧ w' = w := by
  by_cases h1 : a ≤ x
  · have h1' : ¬ x < a := by omega
    by_cases h2 : x ≤ b
    · rw [decide_eq_true ⟨h1, h2⟩]
      go_enter Tryd.func23, Tryd.ntmps23
      go_wp2
      go_ret
      exact ⟨rfl, rfl⟩
    · rw [decide_eq_false (fun h => h2 h.2)]
      go_enter Tryd.func23, Tryd.ntmps23
      go_wp2
      go_ret
      exact ⟨rfl, rfl⟩
  · rw [decide_eq_false (fun h => h1 h.1)]
    go_enter Tryd.func23, Tryd.ntmps23
    go_wp2
    go_ret
    exact ⟨rfl, rfl⟩
set_option maxRecDepth 100000 in
theorem isOp_any (w : World) (x : Int) :
    Calls Tryd.prog 39 #[.int .i64 x] w fun e w' => e = .returned (.bool (decide (1 ≤ x ∧ x < 23))) ∧ w' = w := by
  by_cases h1 : 1 ≤ x
  · have h1' : ¬ x < 1 := by omega
    by_cases h2 : x < 23
    · rw [decide_eq_true ⟨h1, h2⟩]
      go_enter Tryd.func39, Tryd.ntmps39
      go_wp2
      go_ret
      exact ⟨rfl, rfl⟩
    · rw [decide_eq_false (fun h => h2 h.2)]
      go_enter Tryd.func39, Tryd.ntmps39
      go_wp2
      go_ret
      exact ⟨rfl, rfl⟩
  · rw [decide_eq_false (fun h => h1 h.1)]
    go_enter Tryd.func39, Tryd.ntmps39
    go_wp2
    go_ret
    exact ⟨rfl, rfl⟩
set_option maxRecDepth 100000 in
theorem isAlone_any (w : World) (x : Int) :
    Calls Tryd.prog 26 #[.int .i64 x] w fun e w' => e = .returned (.bool (decide (1 ≤ x ∧ x ≤ 7))) ∧ w' = w := by
  have HW := hide (within_any w x 1 7)
  obtain ⟨B, eB⟩ : ∃ B, decide (1 ≤ x ∧ x ≤ 7) = B := ⟨_, rfl⟩
  rw [eB] at HW ⊢
  clear eB
  go_enter Tryd.func26, Tryd.ntmps26
  go_wp2_with (go_at_call 23; refine (unhide HW).mono ?_; rintro e w' ⟨rfl, rfl⟩)
  go_ret
  exact ⟨rfl, rfl⟩
/-- 1, if it is less. -/
def lessI (x y : Int) : Int := if x < y then 1 else 0
set_option maxRecDepth 100000 in
theorem less_any (w : World) (x y : Int) :
    Calls Tryd.prog 41 #[.int .i64 x, .int .i64 y] w fun e w' => e = .returned (.int .i64 (lessI x y)) ∧ w' = w := by
  unfold lessI
  by_cases h : x < y
  · rw [if_pos h]
    go_enter Tryd.func41, Tryd.ntmps41
    go_wp2
    go_ret
    exact ⟨rfl, rfl⟩
  · rw [if_neg h]
    go_enter Tryd.func41, Tryd.ntmps41
    go_wp2
    go_ret
    exact ⟨rfl, rfl⟩
set_option maxRecDepth 100000 in
theorem f_any (w : World) (x y : Int) :
    Calls Tryd.prog 14 #[.int .i64 x, .int .i64 y] w fun e w' => e = .returned (.agg #[.int .i64 x, .int .i64 y]) ∧ Below w.heap.size w w' := by
  have HX := hide ((Below.refl w.heap.size w).alloc (Nat.le_refl _) (.cells #[.int .i64 0, .int .i64 0] 31))
  have HP := hide (new_block w (.cells #[.int .i64 0, .int .i64 0] 31))
  go_enter Tryd.func14, Tryd.ntmps14
  go_upto_region 1 with fail
  obtain ⟨W0, e0⟩ : ∃ W, w.alloc (.cells #[.int .i64 0, .int .i64 0] 31) = W := ⟨_, rfl⟩
  rw [e0] at HX HP ⊢
  clear e0
  obtain ⟨p0, p1, f0, f1, pl⟩ := block2 (unhide HP)
  go_wp2_with fail
  exact bodyPost_ret (v := .agg #[.int .i64 x, .int .i64 y]) (by simp [results, Tryd.results14, go_sem, p0, p1]) rfl ⟨rfl, below_set2 (unhide HX) (Nat.le_refl _) _ _⟩

/-- How many numbers there are of a kind. -/
def roomN (p : Pg) (k : Int) : Int := if k = 1 then 8 else if k = 3 then p.code.length else if k = 4 then p.cells else if k = 5 then p.pipes.length else if k = 6 then p.locks else if k = 7 then p.groups else if k = 8 then 2 else 1

set_option maxRecDepth 100000 in
set_option maxHeartbeats 1000000 in
theorem room1 (w : World) (a b : Option Addr) (n m c d : Nat) (x y z : Int)  :
    Calls Tryd.prog 48 #[.agg #[.slice a n c, .int .i64 x, .slice b m d, .int .i64 y, .int .i64 z], .int .i64 1] w fun e w' => e = .returned (.int .i64 8) ∧ Below w.heap.size w w' := by
  obtain ⟨W0, e0, hB, k0⟩ := one_new w (.cells #[.slice a n c, .int .i64 x, .slice b m d, .int .i64 y, .int .i64 z] 25)
  have HX := hide hB; have HE := hide e0; have HK := hide k0
  clear hB e0 k0
  go_enter Tryd.func48, Tryd.ntmps48
  go_upto_region 1 with fail
  rw [unhide HE]
  clear HE
  obtain ⟨⟨k0, k1, k2, k3, k4⟩, kl⟩ := block5 (unhide HK)
  go_wp2_with fail
  go_ret
  exact ⟨rfl, unhide HX⟩

set_option maxRecDepth 100000 in
set_option maxHeartbeats 1000000 in
theorem room3 (w : World) (a b : Option Addr) (n m c d : Nat) (x y z : Int)  :
    Calls Tryd.prog 48 #[.agg #[.slice a n c, .int .i64 x, .slice b m d, .int .i64 y, .int .i64 z], .int .i64 3] w fun e w' => e = .returned (.int .i64 n) ∧ Below w.heap.size w w' := by
  obtain ⟨W0, e0, hB, k0⟩ := one_new w (.cells #[.slice a n c, .int .i64 x, .slice b m d, .int .i64 y, .int .i64 z] 25)
  have HX := hide hB; have HE := hide e0; have HK := hide k0
  clear hB e0 k0
  go_enter Tryd.func48, Tryd.ntmps48
  go_upto_region 1 with fail
  rw [unhide HE]
  clear HE
  obtain ⟨⟨k0, k1, k2, k3, k4⟩, kl⟩ := block5 (unhide HK)
  go_wp2_with fail
  go_ret
  exact ⟨rfl, unhide HX⟩

set_option maxRecDepth 100000 in
set_option maxHeartbeats 1000000 in
theorem room4 (w : World) (a b : Option Addr) (n m c d : Nat) (x y z : Int)  :
    Calls Tryd.prog 48 #[.agg #[.slice a n c, .int .i64 x, .slice b m d, .int .i64 y, .int .i64 z], .int .i64 4] w fun e w' => e = .returned (.int .i64 x) ∧ Below w.heap.size w w' := by
  obtain ⟨W0, e0, hB, k0⟩ := one_new w (.cells #[.slice a n c, .int .i64 x, .slice b m d, .int .i64 y, .int .i64 z] 25)
  have HX := hide hB; have HE := hide e0; have HK := hide k0
  clear hB e0 k0
  go_enter Tryd.func48, Tryd.ntmps48
  go_upto_region 1 with fail
  rw [unhide HE]
  clear HE
  obtain ⟨⟨k0, k1, k2, k3, k4⟩, kl⟩ := block5 (unhide HK)
  go_wp2_with fail
  go_ret
  exact ⟨rfl, unhide HX⟩

set_option maxRecDepth 100000 in
set_option maxHeartbeats 1000000 in
theorem room5 (w : World) (a b : Option Addr) (n m c d : Nat) (x y z : Int)  :
    Calls Tryd.prog 48 #[.agg #[.slice a n c, .int .i64 x, .slice b m d, .int .i64 y, .int .i64 z], .int .i64 5] w fun e w' => e = .returned (.int .i64 m) ∧ Below w.heap.size w w' := by
  obtain ⟨W0, e0, hB, k0⟩ := one_new w (.cells #[.slice a n c, .int .i64 x, .slice b m d, .int .i64 y, .int .i64 z] 25)
  have HX := hide hB; have HE := hide e0; have HK := hide k0
  clear hB e0 k0
  go_enter Tryd.func48, Tryd.ntmps48
  go_upto_region 1 with fail
  rw [unhide HE]
  clear HE
  obtain ⟨⟨k0, k1, k2, k3, k4⟩, kl⟩ := block5 (unhide HK)
  go_wp2_with fail
  go_ret
  exact ⟨rfl, unhide HX⟩

set_option maxRecDepth 100000 in
set_option maxHeartbeats 1000000 in
theorem room6 (w : World) (a b : Option Addr) (n m c d : Nat) (x y z : Int)  :
    Calls Tryd.prog 48 #[.agg #[.slice a n c, .int .i64 x, .slice b m d, .int .i64 y, .int .i64 z], .int .i64 6] w fun e w' => e = .returned (.int .i64 y) ∧ Below w.heap.size w w' := by
  obtain ⟨W0, e0, hB, k0⟩ := one_new w (.cells #[.slice a n c, .int .i64 x, .slice b m d, .int .i64 y, .int .i64 z] 25)
  have HX := hide hB; have HE := hide e0; have HK := hide k0
  clear hB e0 k0
  go_enter Tryd.func48, Tryd.ntmps48
  go_upto_region 1 with fail
  rw [unhide HE]
  clear HE
  obtain ⟨⟨k0, k1, k2, k3, k4⟩, kl⟩ := block5 (unhide HK)
  go_wp2_with fail
  go_ret
  exact ⟨rfl, unhide HX⟩

set_option maxRecDepth 100000 in
set_option maxHeartbeats 1000000 in
theorem room7 (w : World) (a b : Option Addr) (n m c d : Nat) (x y z : Int)  :
    Calls Tryd.prog 48 #[.agg #[.slice a n c, .int .i64 x, .slice b m d, .int .i64 y, .int .i64 z], .int .i64 7] w fun e w' => e = .returned (.int .i64 z) ∧ Below w.heap.size w w' := by
  obtain ⟨W0, e0, hB, k0⟩ := one_new w (.cells #[.slice a n c, .int .i64 x, .slice b m d, .int .i64 y, .int .i64 z] 25)
  have HX := hide hB; have HE := hide e0; have HK := hide k0
  clear hB e0 k0
  go_enter Tryd.func48, Tryd.ntmps48
  go_upto_region 1 with fail
  rw [unhide HE]
  clear HE
  obtain ⟨⟨k0, k1, k2, k3, k4⟩, kl⟩ := block5 (unhide HK)
  go_wp2_with fail
  go_ret
  exact ⟨rfl, unhide HX⟩

set_option maxRecDepth 100000 in
set_option maxHeartbeats 1000000 in
theorem room8 (w : World) (a b : Option Addr) (n m c d : Nat) (x y z : Int)  :
    Calls Tryd.prog 48 #[.agg #[.slice a n c, .int .i64 x, .slice b m d, .int .i64 y, .int .i64 z], .int .i64 8] w fun e w' => e = .returned (.int .i64 2) ∧ Below w.heap.size w w' := by
  obtain ⟨W0, e0, hB, k0⟩ := one_new w (.cells #[.slice a n c, .int .i64 x, .slice b m d, .int .i64 y, .int .i64 z] 25)
  have HX := hide hB; have HE := hide e0; have HK := hide k0
  clear hB e0 k0
  go_enter Tryd.func48, Tryd.ntmps48
  go_upto_region 1 with fail
  rw [unhide HE]
  clear HE
  obtain ⟨⟨k0, k1, k2, k3, k4⟩, kl⟩ := block5 (unhide HK)
  go_wp2_with fail
  go_ret
  exact ⟨rfl, unhide HX⟩

set_option maxRecDepth 100000 in
set_option maxHeartbeats 1000000 in
theorem room0 (w : World) (a b : Option Addr) (n m c d : Nat) (x y z : Int) (k : Int) (g1 : ¬ k = 1) (g3 : ¬ k = 3) (g4 : ¬ k = 4) (g5 : ¬ k = 5) (g6 : ¬ k = 6) (g7 : ¬ k = 7) (g8 : ¬ k = 8) :
    Calls Tryd.prog 48 #[.agg #[.slice a n c, .int .i64 x, .slice b m d, .int .i64 y, .int .i64 z], .int .i64 k] w fun e w' => e = .returned (.int .i64 1) ∧ Below w.heap.size w w' := by
  obtain ⟨W0, e0, hB, k0⟩ := one_new w (.cells #[.slice a n c, .int .i64 x, .slice b m d, .int .i64 y, .int .i64 z] 25)
  have HX := hide hB; have HE := hide e0; have HK := hide k0
  clear hB e0 k0
  go_enter Tryd.func48, Tryd.ntmps48
  go_upto_region 1 with fail
  rw [unhide HE]
  clear HE
  obtain ⟨⟨k0, k1, k2, k3, k4⟩, kl⟩ := block5 (unhide HK)
  go_wp2_with fail
  go_ret
  exact ⟨rfl, unhide HX⟩

theorem room_any (w : World) (v : Value) (p : Pg) (h : IsP w v p) (k : Int) :
    Calls Tryd.prog 48 #[v, .int .i64 k] w fun e w' => e = .returned (.int .i64 (roomN p k)) ∧ Below w.heap.size w w' := by
  obtain ⟨a, c, b, d, rfl, -, -⟩ := h.form
  unfold roomN
  split
  · next e => subst e; exact room1 _ _ _ _ _ _ _ _ _ _
  split
  · next e => subst e; exact room3 _ _ _ _ _ _ _ _ _ _
  split
  · next e => subst e; exact room4 _ _ _ _ _ _ _ _ _ _
  split
  · next e => subst e; exact room5 _ _ _ _ _ _ _ _ _ _
  split
  · next e => subst e; exact room6 _ _ _ _ _ _ _ _ _ _
  split
  · next e => subst e; exact room7 _ _ _ _ _ _ _ _ _ _
  split
  · next e => subst e; exact room8 _ _ _ _ _ _ _ _ _ _
  exact room0 _ _ _ _ _ _ _ _ _ _ _ (by assumption) (by assumption) (by assumption) (by assumption) (by assumption) (by assumption) (by assumption)

/-- Is a number of a kind? -/
def fitsB (p : Pg) (k x : Int) : Bool := decide (k = 2 ∨ (0 ≤ x ∧ x ≤ roomN p k - 1))
theorem room_wrap (p : Pg) (k : Int) (hn : p.code.length ≤ 2000) (hm : p.pipes.length ≤ 2000) (h1 : 0 ≤ p.cells ∧ p.cells ≤ 20) (h2 : 0 ≤ p.locks ∧ p.locks ≤ 20) (h3 : 0 ≤ p.groups ∧ p.groups ≤ 20) : 0 ≤ roomN p k ∧ roomN p k ≤ 2000 := by
  unfold roomN
  repeat' split
  all_goals omega
set_option maxRecDepth 100000 in
set_option maxHeartbeats 1000000 in
theorem fits_any (w : World) (v : Value) (p : Pg) (h : IsP w v p) (k x : Int) (hr : 0 ≤ roomN p k ∧ roomN p k ≤ 2000) :
    Calls Tryd.prog 40 #[v, .int .i64 k, .int .i64 x] w fun e w' => e = .returned (.bool (fitsB p k x)) ∧ Below w.heap.size w w' := by
  obtain ⟨a, c, b, d, rfl, hc, hp⟩ := h.form
  have HP := hide h
  obtain ⟨r, er⟩ : ∃ r, roomN p k = r := ⟨_, rfl⟩
  have HR := hide (room_any w _ p h k)
  unfold fitsB
  rw [er] at hr HR ⊢
  obtain ⟨r0, r1⟩ := hr
  obtain ⟨W0, e0, hB, k0⟩ := one_new w (.cells #[.slice a p.code.length c, .int .i64 p.cells, .slice b p.pipes.length d, .int .i64 p.locks, .int .i64 p.groups] 25)
  have HX := hide hB; have HE := hide e0; have HK := hide k0
  have HR := hide fun W (hW : Below w.heap.size w W) => room_any W _ p (h.below hW) k
  rw [er] at HR
  clear hB e0 k0 h hc hp er
  by_cases h2 : k = 2
  · rw [decide_eq_true (Or.inl h2)]
    subst h2
    clear HR
    go_enter Tryd.func40, Tryd.ntmps40
    go_upto_region 1 with fail
    rw [unhide HE]
    clear HE
    obtain ⟨⟨k0, k1, k2, k3, k4⟩, kl⟩ := block5 (unhide HK)
    go_wp2_with fail
    go_ret
    exact ⟨rfl, unhide HX⟩
  · obtain ⟨B, eB⟩ : ∃ B, decide (0 ≤ x ∧ x ≤ r - 1) = B := ⟨_, rfl⟩
    have hh : decide (k = 2 ∨ (0 ≤ x ∧ x ≤ r - 1)) = B := by rw [← eB]; congr 1; simp [h2]
    rw [hh]
    have HW := hide fun W => within_any W x 0 (r - 1)
    rw [eB] at HW
    clear hh eB
    go_enter Tryd.func40, Tryd.ntmps40
    go_upto_region 1 with fail
    rw [unhide HE]
    clear HE
    obtain ⟨⟨k0, k1, k2, k3, k4⟩, kl⟩ := block5 (unhide HK)
    go_wp2_with (first
      | (go_at_call 48; refine (unhide HR _ (unhide HX)).mono ?_; rintro e w1 ⟨rfl, b1⟩; have HY := hide b1; clear b1)
      | (go_at_call 23; refine (unhide HW _).mono ?_; rintro e w2 ⟨rfl, rfl⟩))
    go_ret
    have g2 : (k == 2) = false := by simpa using h2
    exact ⟨by simp [g2], (unhide HX).trans ((unhide HY).mono (unhide HX).size)⟩

end Go.Proofs.YtgeinjldjpaleaaDoor
