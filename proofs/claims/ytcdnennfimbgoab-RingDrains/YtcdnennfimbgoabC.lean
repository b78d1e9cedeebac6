/-
  What is wrong with a ring: ring.Check.
-/
import Derived.Test.YtcdnennfimbgoabB
namespace Go.Proofs.Ytcdnennfimbgoab
open Go.RowKit

/-- The first place whose code is not 0, of so many from i on, and one more; (0, 0) where there is none. -/
def faultFrom (W : Nat → Int) : Nat → Nat → Int × Int
  | 0, _ => (0, 0)
  | f + 1, i => if W i = 0 then faultFrom W f (i + 1) else (W i, (i : Int) + 1)

theorem faultFrom_next {W : Nat → Int} {n j : Nat} (hj : j < n) (h : W j = 0) : faultFrom W (n - j) j = faultFrom W (n - (j + 1)) (j + 1) := by
  have e : n - j = (n - (j + 1)) + 1 := by omega
  rw [e, faultFrom, if_pos h]
theorem faultFrom_here {W : Nat → Int} {n j : Nat} (hj : j < n) (h : W j ≠ 0) : faultFrom W (n - j) j = (W j, (j : Int) + 1) := by
  have e : n - j = (n - (j + 1)) + 1 := by omega
  rw [e, faultFrom, if_neg h]
theorem faultFrom_none {W : Nat → Int} {n j : Nat} (hj : n ≤ j) : faultFrom W (n - j) j = (0, 0) := by
  have e : n - j = 0 := by omega
  rw [e, faultFrom]
theorem ret_fault {a b : Int} {x : Int × Int} (h : x = (a, b)) : Ending.returned (.agg #[.int .i64 a, .int .i64 b]) = .returned (.agg #[.int .i64 x.1, .int .i64 x.2]) := by rw [h]

/-- What is wrong with the task at a place. -/
def ringW (nx : Int) (zs : List Int) (j : Nat) : Int := if zs.getD j 0 < 1 then 3 else if zs.getD j 0 = nx ∨ (zs.take j).contains (zs.getD j 0) = true then 10 else 0
/-- What is wrong with a ring. -/
def ringF (nx : Int) (zs : List Int) : Int × Int := if 256 < zs.length then (2, 0) else if nx < 0 then (3, 0) else faultFrom (ringW nx zs) zs.length 0
def faultV (x : Int × Int) : Value := .agg #[.int .i64 x.1, .int .i64 x.2]

theorem contains_next {nx z : Int} {l : List Int} (hz : ¬ z < 1) : ((nextL nx ++ l).contains z = true) ↔ (z = nx ∨ l.contains z = true) := by
  unfold nextL
  split
  · rename_i h
    subst h
    constructor
    · intro h; exact Or.inr (by simpa using h)
    · rintro (h | h)
      · omega
      · simpa using h
  · simp

theorem take_next {zs : List Int} {j : Nat} (hj : j < zs.length) : zs.take (j + 1) = zs.take j ++ [zs.getD j 0] := by
  rw [List.take_add_one, List.getElem?_eq_getElem hj]
  simp [List.getElem?_eq_getElem hj]

theorem set_put {w : World} {B : Nat} {ks : List Int} {z : Int} (h : B < w.heap.size) : IsSet (putObj w B (.map (setEnts (ks ++ [z])) (ks.length + 1))) B (ks ++ [z]) := by
  have := IsSet.put (ks := ks ++ [z]) h
  rw [List.length_append] at this
  exact this

theorem below_two {w w3 : World} {o o' : Obj} (h : Below (w.heap.size + 2) ((w.alloc o).alloc o') w3) : Below w.heap.size w w3 :=
  ((((Below.refl w.heap.size w).alloc (Nat.le_refl _) o).alloc (by simp) o')).trans (h.mono (by omega))

theorem res_there {w wr : World} {x y : Value} {o : Obj} (h : Below (w.heap.size + 2) ((w.alloc o).alloc (.cells #[x, y] 27)) wr) :
    wr.cell? ⟨w.heap.size + 1, 0, none⟩ = some x ∧ wr.cell? ⟨w.heap.size + 1, 1, none⟩ = some y ∧ wr.frozen? ⟨w.heap.size + 1, 0, none⟩ = false ∧ wr.frozen? ⟨w.heap.size + 1, 1, none⟩ = false := by
  have hh := (MapKept.heap_alloc (w.alloc o) (.cells #[x, y] 27)).1
  rw [World.size_alloc] at hh
  refine ⟨?_, ?_, ?_, ?_⟩
  · rw [h.cell (p := ⟨w.heap.size + 1, 0, none⟩) (by simp)]; simp only [World.cell?, hh]; rfl
  · rw [h.cell (p := ⟨w.heap.size + 1, 1, none⟩) (by simp)]; simp only [World.cell?, hh]; rfl
  · rw [h.frozen (p := ⟨w.heap.size + 1, 0, none⟩) (by simp)]; simp only [World.frozen?, hh]; rfl
  · rw [h.frozen (p := ⟨w.heap.size + 1, 1, none⟩) (by simp)]; simp only [World.frozen?, hh]; rfl

theorem arg_there {w wr : World} {x y : Value} {o : Obj} (h : Below (w.heap.size + 2) ((w.alloc (.cells #[x, y] 25)).alloc o) wr) : wr.cell? ⟨w.heap.size, 0, none⟩ = some x ∧ wr.cell? ⟨w.heap.size, 1, none⟩ = some y := by
  have hh := (MapKept.heap_alloc w (.cells #[x, y] 25)).1
  constructor
  · rw [h.cell (p := ⟨w.heap.size, 0, none⟩) (by simp), World.cell?_alloc_past _ _ _ (by simp)]; simp only [World.cell?, hh]; rfl
  · rw [h.cell (p := ⟨w.heap.size, 1, none⟩) (by simp), World.cell?_alloc_past _ _ _ (by simp)]; simp only [World.cell?, hh]; rfl

theorem old_there {w wr : World} {o o' : Obj} (h : Below (w.heap.size + 2) ((w.alloc o).alloc o') wr) {b : Nat} (hb : b < w.heap.size) (i : Nat) : wr.cell? ⟨b, i, none⟩ = w.cell? ⟨b, i, none⟩ := by
  rw [h.cell (p := ⟨b, i, none⟩) (by simp; omega), World.cell?_alloc_past _ _ _ (by simp; omega), World.cell?_alloc_past _ _ _ hb]

set_option maxRecDepth 100000 in
set_option maxHeartbeats 400000 in
theorem rcheck_many (w : World) (nx : Int) (a : Option Addr) (n c : Nat) (hmn : 256 < n) (hn : n ≤ maxLen) :
    Calls Try.prog 18 #[.agg #[.int .i64 nx, .slice a n c]] w fun e w' => e = .returned (.agg #[.int .i64 2, .int .i64 0]) ∧ Below w.heap.size w w' := by
  unfold maxLen at hn
  have h1 : (256 : Int) < (n : Int) := by omega
  go_enter Try.func18, Try.ntmps18
  go_wp2
  exact bodyPost_ret (v := .agg #[.int .i64 2, .int .i64 0]) (by simp [results, Try.results18, go_sem]) rfl ⟨rfl, ((Below.refl _ _).alloc (Nat.le_refl _) _).alloc (by rw [World.size_alloc]; omega) _⟩

set_option maxRecDepth 100000 in
set_option maxHeartbeats 400000 in
theorem rcheck_neg (w : World) (nx : Int) (a : Option Addr) (n c : Nat) (hmn : n ≤ 256) (hx : nx < 0) :
    Calls Try.prog 18 #[.agg #[.int .i64 nx, .slice a n c]] w fun e w' => e = .returned (.agg #[.int .i64 3, .int .i64 0]) ∧ Below w.heap.size w w' := by
  have h1 : ¬ (256 : Int) < (n : Int) := by omega
  go_enter Try.func18, Try.ntmps18
  go_wp2
  exact bodyPost_ret (v := .agg #[.int .i64 3, .int .i64 0]) (by simp [results, Try.results18, go_sem]) rfl ⟨rfl, ((Below.refl _ _).alloc (Nat.le_refl _) _).alloc (by rw [World.size_alloc]; omega) _⟩

set_option maxRecDepth 100000 in
set_option maxHeartbeats 1000000 in
theorem rcheck_some (w : World) (nx : Int) (b off c : Nat) (zs : List Int) (hmn : zs.length ≤ 256) (hx : ¬ nx < 0) (hb : b < w.heap.size) (hc : ∀ j, j < zs.length → w.cell? ⟨b, off + j, none⟩ = some (.int .i64 (zs.getD j 0))) :
    Calls Try.prog 18 #[.agg #[.int .i64 nx, .slice (some ⟨b, off, none⟩) zs.length c]] w fun e w' => e = .returned (faultV (faultFrom (ringW nx zs) zs.length 0)) ∧ Below w.heap.size w w' := by
  have h1 : ¬ (256 : Int) < (zs.length : Int) := by omega
  have HC := hide hc
  clear hc
  obtain ⟨n, hn⟩ : ∃ n, zs.length = n := ⟨_, rfl⟩
  rw [hn] at h1 hmn ⊢
  have HN := hide hn
  clear hn
  obtain ⟨W, hW⟩ : ∃ W, ringW nx zs = W := ⟨_, rfl⟩
  rw [hW]
  have HW := hide hW
  clear hW
  go_enter Try.func18, Try.ntmps18
  go_wp2_with (go_at_call 23; refine (nextOf_any _ _ _ _ _ (by omega)).mono ?_; rintro e w1 ⟨B, rfl, hB, hS, hb1⟩; have hb2 := hb1.mono (show w.heap.size + 2 ≤ _ by simp); have hB2 : w.heap.size + 2 ≤ B := Nat.le_trans (by simp) hB; obtain ⟨x0, x1⟩ := arg_there hb2; have HB := hide hB2; have HS := hide hS; have HB1 := hide hb2; clear hB hS hb1 hb2 hB2)
  clear x0 x1
  go_loopw [20] (fun i wr => ∃ j : Nat, j ≤ n ∧ i = .int .i64 j ∧ faultFrom W n 0 = faultFrom W (n - j) j ∧ IsSet wr B (nextL nx ++ zs.take j) ∧ Below (w.heap.size + 2) ((w.alloc (.cells #[.int .i64 nx, .slice (some ⟨b, off, none⟩) n c] 25)).alloc (.cells #[.int .i64 0, .int .i64 0] 27)) wr)
    (fun i _ => n - (intOf i).toNat)
  case atStart => exact ⟨0, Nat.zero_le _, rfl, rfl, by rw [List.take_zero, List.append_nil]; exact unhide HS, unhide HB1⟩
  case round =>
    clear HB1 HS
    obtain ⟨j, hj, rfl, hfrom, hS, hnx⟩ := hrel
    have HF := hide hfrom
    clear hfrom
    by_cases hlt : j < n
    · obtain ⟨z, hz⟩ : ∃ z, zs.getD j 0 = z := ⟨_, rfl⟩
      have k0 := (old_there hnx hb (off + j)).trans (unhide HC j (by rw [unhide HN]; exact hlt))
      rw [hz] at k0
      obtain ⟨r0, r1, f0, f1⟩ := res_there hnx
      have HX := hide hnx
      have i0 : (0 : Int) ≤ (j : Int) := by omega
      have i1 : (j : Int) < (n : Int) := by omega
      clear hnx
      by_cases hz0 : z < 1
      · have hWj : W j = 3 := by rw [← unhide HW, ringW, hz, if_pos hz0]
        clear hz
        go_wp2
        refine bodyPost_ret (v := .agg #[.int .i64 3, .int .i64 ((j : Int) + 1)]) (by simp [results, Try.results18, go_sem, r0, r1]) rfl ⟨ret_fault ?_, ?_⟩
        · rw [unhide HF, faultFrom_here hlt (by rw [hWj]; decide), hWj]
        · exact ((below_two (unhide HX)).setCell (Nat.le_succ _) _).setCell (Nat.le_succ _) _
      · have HH := hide (sethas_any wr B _ z hS)
        by_cases hct : (nextL nx ++ zs.take j).contains z = true
        · have hWj : W j = 10 := by
            rw [← unhide HW, ringW, hz, if_neg hz0, if_pos ((contains_next hz0).1 hct)]
          clear hz
          rw [hct] at HH
          clear hct
          go_wp2_with (go_at_call 24; refine (unhide HH).mono ?_; rintro e w3 ⟨rfl, hb3⟩; have hX3 := (unhide HX).trans (hb3.mono (Nat.le_trans (by simp) (unhide HX).size)); obtain ⟨q0, q1, g0, g1⟩ := res_there hX3; have HX3 := hide hX3; clear hb3 hX3 r0 r1 f0 f1 k0)
          refine bodyPost_ret (v := .agg #[.int .i64 10, .int .i64 ((j : Int) + 1)]) (by simp [results, Try.results18, go_sem, q0, q1]) rfl ⟨ret_fault ?_, ?_⟩
          · rw [unhide HF, faultFrom_here hlt (by rw [hWj]; decide), hWj]
          · exact ((below_two (unhide HX3)).setCell (Nat.le_succ _) _).setCell (Nat.le_succ _) _
        · have hcf : (nextL nx ++ zs.take j).contains z = false := by simpa using hct
          have hWj : W j = 0 := by
            rw [← unhide HW, ringW, hz, if_neg hz0, if_neg (fun h => hct ((contains_next hz0).2 h))]
          have HT : Hid (nextL nx ++ zs.take (j + 1) = (nextL nx ++ zs.take j) ++ [z]) := by rw [take_next (by rw [unhide HN]; exact hlt), hz, List.append_assoc]; rfl
          obtain ⟨ks, hks⟩ : ∃ ks, nextL nx ++ zs.take j = ks := ⟨_, rfl⟩
          rw [hks] at HT hcf hS HH
          have HCF := hide hcf
          have HS := hide hS
          clear hz hct hS hks
          rw [hcf] at HH
          clear hcf
          go_wp2_with (first
            | (go_at_call 24; refine (unhide HH).mono ?_; rintro e w3 ⟨rfl, hb3⟩; have HS3 := hide ((unhide HS).below hb3); have HX3 := hide ((unhide HX).trans (hb3.mono (Nat.le_trans (by simp) (unhide HX).size))); clear hb3)
            | (go_at_call 25; refine (setadd_any _ _ _ _ (unhide HS3) (unhide HCF)).mono ?_; rintro e w4 ⟨rfl, rfl⟩))
          go_roundw
          case rel => exact ⟨j + 1, by omega, by go_num, (unhide HF).trans (faultFrom_next hlt hWj), by rw [unhide HT]; exact set_put (unhide HS3).lt, below_put (unhide HX3) (unhide HB) _⟩
          case measure => simp [intOf]; omega
    · obtain ⟨r0, r1, f0, f1⟩ := res_there hnx
      have HX := hide hnx
      clear hnx hS
      go_wp2
      refine bodyPost_ret (v := .agg #[.int .i64 0, .int .i64 0]) (by simp [results, Try.results18, go_sem, r0, r1]) rfl ⟨ret_fault ((unhide HF).trans (faultFrom_none (by omega))), ?_⟩
      exact ((below_two (unhide HX)).setCell (Nat.le_succ _) _).setCell (Nat.le_succ _) _
end Go.Proofs.Ytcdnennfimbgoab
