/-
  taskmillref.RingFault and ring.Check, of whatever comes in.
-/
import Derived.Test.YtcdnennfimbgoabC
namespace Go.Proofs.Ytcdnennfimbgoab
open Go.RowKit

set_option maxRecDepth 100000 in
set_option maxHeartbeats 400000 in
theorem rcheck_zero (w : World) (nx : Int) (a : Option Addr) (c : Nat) (hx : ¬ nx < 0) :
    Calls Try.prog 18 #[.agg #[.int .i64 nx, .slice a 0 c]] w fun e w' => e = .returned (faultV (0, 0)) ∧ Below w.heap.size w w' := by
  go_enter Try.func18, Try.ntmps18
  go_wp2_with (go_at_call 23; refine (nextOf_any _ _ _ _ _ (by omega)).mono ?_; rintro e w1 ⟨B, rfl, hB, hS, hb1⟩; have hb2 := hb1.mono (show w.heap.size + 2 ≤ _ by simp); obtain ⟨x0, x1⟩ := arg_there hb2; have HB1 := hide hb2; clear hB hS hb1 hb2)
  clear x0 x1
  go_loopw [20] (fun i wr => i = .int .i64 0 ∧ Below (w.heap.size + 2) ((w.alloc (.cells #[.int .i64 nx, .slice a 0 c] 25)).alloc (.cells #[.int .i64 0, .int .i64 0] 27)) wr) (fun i _ => 0)
  case atStart => exact ⟨rfl, unhide HB1⟩
  case round =>
    clear HB1
    obtain ⟨rfl, hnx⟩ := hrel
    obtain ⟨r0, r1, f0, f1⟩ := res_there hnx
    have HX := hide hnx
    clear hnx
    go_wp2
    refine bodyPost_ret (v := .agg #[.int .i64 0, .int .i64 0]) (by simp [results, Try.results18, go_sem, r0, r1]) rfl ⟨rfl, ?_⟩
    exact ((below_two (unhide HX)).setCell (Nat.le_succ _) _).setCell (Nat.le_succ _) _

theorem rcheck_any (w : World) (nx : Int) (v : Value) (zs : List Int) (h : IsInts w v zs) (hn : zs.length ≤ maxLen) :
    Calls Try.prog 18 #[.agg #[.int .i64 nx, v]] w fun e w' => e = .returned (faultV (ringF nx zs)) ∧ Below w.heap.size w w' := by
  unfold ringF
  by_cases h1 : 256 < zs.length
  · rw [if_pos h1]
    obtain ⟨a, c, rfl⟩ := Rd.form h
    exact rcheck_many w nx a zs.length c h1 hn
  · rw [if_neg h1]
    by_cases h2 : nx < 0
    · rw [if_pos h2]
      obtain ⟨a, c, rfl⟩ := Rd.form h
      exact rcheck_neg w nx a zs.length c (by omega) h2
    · rw [if_neg h2]
      by_cases h0 : 0 < zs.length
      · obtain ⟨b, off, c, rfl, hb, hc⟩ := h.at h0
        exact rcheck_some w nx b off c zs (by omega) h2 hb hc
      · obtain ⟨a, c, rfl⟩ := Rd.form h
        have e0 : zs.length = 0 := by omega
        rw [e0]
        exact rcheck_zero w nx a c h2

theorem below_call {w W' w2 : World} {o o' : Obj} (h : Below (w.heap.size + 2) ((w.alloc o).alloc o') W') (h2 : Below W'.heap.size W' w2) : Below (w.heap.size + 2) ((w.alloc o).alloc o') w2 :=
  h.trans (h2.mono (Nat.le_trans (by simp) h.size))

theorem f_any (w : World) (a b : Int) :
    Calls Try.prog 19 #[.int .i64 a, .int .i64 b] w fun e w' => e = .returned (.agg #[.int .i64 a, .int .i64 b]) ∧ Below w.heap.size w w' := by
  go_enter Try.func19, Try.ntmps19
  go_wp2
  exact bodyPost_ret (v := .agg #[.int .i64 a, .int .i64 b]) (by simp [results, Try.results19, go_sem]) rfl ⟨rfl, ((Below.refl _ _).alloc (Nat.le_refl _) _)⟩

set_option maxRecDepth 100000 in
set_option maxHeartbeats 400000 in
theorem rfault_many (w : World) (nx : Int) (a : Option Addr) (n c : Nat) (hmn : 256 < n) (hn : n ≤ maxLen) :
    Calls Try.prog 8 #[.agg #[.int .i64 nx, .slice a n c]] w fun e w' => e = .returned (.agg #[.int .i64 2, .int .i64 0]) ∧ Below w.heap.size w w' := by
  unfold maxLen at hn
  have h1 : (256 : Int) < (n : Int) := by omega
  go_enter Try.func8, Try.ntmps8
  go_wp2_with (go_at_call 19; refine (f_any _ _ _).mono ?_; rintro e w1 ⟨rfl, hb1⟩; have hb2 := hb1.mono (show w.heap.size + 2 ≤ _ by simp); obtain ⟨r0, r1, f0, f1⟩ := res_there hb2; have HX := hide hb2; clear hb1 hb2)
  exact bodyPost_ret (v := .agg #[.int .i64 2, .int .i64 0]) (by simp [results, Try.results8, go_sem, r0, r1]) rfl ⟨rfl, ((below_two (unhide HX)).setCell (Nat.le_succ _) _).setCell (Nat.le_succ _) _⟩

set_option maxRecDepth 100000 in
set_option maxHeartbeats 400000 in
theorem rfault_neg (w : World) (nx : Int) (a : Option Addr) (n c : Nat) (hmn : n ≤ 256) (hx : nx < 0) :
    Calls Try.prog 8 #[.agg #[.int .i64 nx, .slice a n c]] w fun e w' => e = .returned (.agg #[.int .i64 3, .int .i64 0]) ∧ Below w.heap.size w w' := by
  have h1 : ¬ (256 : Int) < (n : Int) := by omega
  go_enter Try.func8, Try.ntmps8
  go_wp2_with (go_at_call 19; refine (f_any _ _ _).mono ?_; rintro e w1 ⟨rfl, hb1⟩; have hb2 := hb1.mono (show w.heap.size + 2 ≤ _ by simp); obtain ⟨r0, r1, f0, f1⟩ := res_there hb2; have HX := hide hb2; clear hb1 hb2)
  exact bodyPost_ret (v := .agg #[.int .i64 3, .int .i64 0]) (by simp [results, Try.results8, go_sem, r0, r1]) rfl ⟨rfl, ((below_two (unhide HX)).setCell (Nat.le_succ _) _).setCell (Nat.le_succ _) _⟩

set_option maxRecDepth 100000 in
set_option maxHeartbeats 400000 in
theorem rfault_zero (w : World) (nx : Int) (a : Option Addr) (c : Nat) (hx : ¬ nx < 0) :
    Calls Try.prog 8 #[.agg #[.int .i64 nx, .slice a 0 c]] w fun e w' => e = .returned (faultV (0, 0)) ∧ Below w.heap.size w w' := by
  go_enter Try.func8, Try.ntmps8
  go_wp2
  go_loopw [3] (fun i wr => i = .int .i64 0 ∧ Below (w.heap.size + 2) ((w.alloc (.cells #[.int .i64 nx, .slice a 0 c] 25)).alloc (.cells #[.int .i64 0, .int .i64 0] 27)) wr) (fun i _ => 0)
  case atStart => exact ⟨rfl, Below.refl _ _⟩
  case round =>
    obtain ⟨rfl, hnx⟩ := hrel
    obtain ⟨r0, r1, f0, f1⟩ := res_there hnx
    obtain ⟨x0, x1⟩ := arg_there hnx
    have HX := hide hnx
    clear hnx
    go_wp2
    refine bodyPost_ret (v := .agg #[.int .i64 0, .int .i64 0]) (by simp [results, Try.results8, go_sem, r0, r1]) rfl ⟨rfl, ?_⟩
    exact ((below_two (unhide HX)).setCell (Nat.le_succ _) _).setCell (Nat.le_succ _) _

theorem part0 {w : World} {b off c n : Nat} {zs : List Int} (h : IsInts w (.slice (some ⟨b, off, none⟩) n c) zs) (m c' : Nat) (hm : m ≤ zs.length) : IsInts w (.slice (some ⟨b, off, none⟩) m c') (zs.take m) := by
  have := IsInts.part h 0 m c' (by omega)
  rw [List.drop_zero, Nat.add_zero] at this
  exact this

set_option maxRecDepth 100000 in
set_option maxHeartbeats 1000000 in
theorem rfault_some (w : World) (nx : Int) (b off c : Nat) (zs : List Int) (hmn : zs.length ≤ 256) (hx : ¬ nx < 0) (hb : b < w.heap.size) (h : IsInts w (.slice (some ⟨b, off, none⟩) zs.length c) zs) (hcap : zs.length ≤ c) (hc : ∀ j, j < zs.length → w.cell? ⟨b, off + j, none⟩ = some (.int .i64 (zs.getD j 0))) :
    Calls Try.prog 8 #[.agg #[.int .i64 nx, .slice (some ⟨b, off, none⟩) zs.length c]] w fun e w' => e = .returned (faultV (faultFrom (ringW nx zs) zs.length 0)) ∧ Below w.heap.size w w' := by
  have h1 : ¬ (256 : Int) < (zs.length : Int) := by omega
  have HC := hide hc; have HL := hide h
  clear hc h
  obtain ⟨n, hn⟩ : ∃ n, zs.length = n := ⟨_, rfl⟩
  rw [hn] at h1 hmn HL hcap ⊢
  have HN := hide hn
  clear hn
  obtain ⟨W, hW⟩ : ∃ W, ringW nx zs = W := ⟨_, rfl⟩
  rw [hW]
  have HW := hide hW
  clear hW
  go_enter Try.func8, Try.ntmps8
  go_wp2
  go_loopw [3] (fun i wr => ∃ j : Nat, j ≤ n ∧ i = .int .i64 j ∧ faultFrom W n 0 = faultFrom W (n - j) j ∧ Below (w.heap.size + 2) ((w.alloc (.cells #[.int .i64 nx, .slice (some ⟨b, off, none⟩) n c] 25)).alloc (.cells #[.int .i64 0, .int .i64 0] 27)) wr)
    (fun i _ => n - (intOf i).toNat)
  case atStart => exact ⟨0, Nat.zero_le _, rfl, rfl, Below.refl _ _⟩
  case round =>
    obtain ⟨j, hj, rfl, hfrom, hnx⟩ := hrel
    have HF := hide hfrom
    clear hfrom
    by_cases hlt : j < n
    · obtain ⟨z, hz⟩ : ∃ z, zs.getD j 0 = z := ⟨_, rfl⟩
      have k0 := (old_there hnx hb (off + j)).trans (unhide HC j (by rw [unhide HN]; exact hlt))
      rw [hz] at k0
      obtain ⟨r0, r1, f0, f1⟩ := res_there hnx
      obtain ⟨x0, x1⟩ := arg_there hnx
      have HX := hide hnx
      have i0 : (0 : Int) ≤ (j : Int) := by omega
      have i1 : (j : Int) < (n : Int) := by omega
      clear hnx
      by_cases hz0 : z < 1
      · have hWj : W j = 3 := by rw [← unhide HW, ringW, hz, if_pos hz0]
        clear hz
        go_wp2_with (go_at_call 19; refine (f_any _ _ _).mono ?_; rintro e w3 ⟨rfl, hb3⟩; have hX3 := (unhide HX).trans (hb3.mono (Nat.le_trans (by simp) (unhide HX).size)); obtain ⟨q0, q1, g0, g1⟩ := res_there hX3; have HX3 := hide hX3; clear hb3 hX3 r0 r1 f0 f1 k0)
        refine bodyPost_ret (v := .agg #[.int .i64 3, .int .i64 ((j : Int) + 1)]) (by simp [results, Try.results8, go_sem, q0, q1]) rfl ⟨ret_fault ?_, ?_⟩
        · rw [unhide HF, faultFrom_here hlt (by rw [hWj]; decide), hWj]
        · exact ((below_two (unhide HX3)).setCell (Nat.le_succ _) _).setCell (Nat.le_succ _) _
      · obtain ⟨r, hr⟩ : ∃ r, (zs.take j).contains z = r := ⟨_, rfl⟩
        have HH : Hid (∀ W', Below (w.heap.size + 2) ((w.alloc (.cells #[.int .i64 nx, .slice (some ⟨b, off, none⟩) n c] 25)).alloc (.cells #[.int .i64 0, .int .i64 0] 27)) W' → ∀ c', Calls Try.prog 9 #[.slice (some ⟨b, off, none⟩) j c', .int .i64 z] W' fun e w' => e = .returned (.bool r) ∧ Below W'.heap.size W' w') := fun W' hW' c' => by
          have h3 := Rd.below (unhide HL) (below_two hW')
          have h4 := part0 h3 j c' (by rw [unhide HN]; omega)
          have h5 := has_any W' _ _ z h4 (by rw [List.length_take, unhide HN]; unfold maxLen; omega)
          rw [hr] at h5
          exact h5
        have HSS : Hid (∀ W', Below (w.heap.size + 2) ((w.alloc (.cells #[.int .i64 nx, .slice (some ⟨b, off, none⟩) n c] 25)).alloc (.cells #[.int .i64 0, .int .i64 0] 27)) W' → W'.cell? ⟨w.heap.size, 0, none⟩ = some (.int .i64 nx) ∧ W'.cell? ⟨w.heap.size, 1, none⟩ = some (.slice (some ⟨b, off, none⟩) n c) ∧ W'.cell? ⟨b, off + j, none⟩ = some (.int .i64 z) ∧ Below (w.heap.size + 2) ((w.alloc (.cells #[.int .i64 nx, .slice (some ⟨b, off, none⟩) n c] 25)).alloc (.cells #[.int .i64 0, .int .i64 0] 27)) W') := fun W' hW' =>
          ⟨(arg_there hW').1, (arg_there hW').2, (old_there hW' hb (off + j)).trans (by have := unhide HC j (by rw [unhide HN]; exact hlt); rw [hz] at this; exact this), hW'⟩
        have i2 : (j : Int) ≤ (c : Int) := by omega
        by_cases hzn : z = nx
        · have e1 : (z == nx) = true := by simpa using hzn
          have hWj : W j = 10 := by rw [← unhide HW, ringW, hz, if_neg hz0, if_pos (Or.inl hzn)]
          clear hz hzn
          go_wp2_with fail
          go_quiet (fail)
          have HXN := hide (below_drewN (unhide HX) nq)
          clear r0 r1 f0 f1 k0 x0 x1
          go_wp2_with (go_at_call 19; refine (f_any _ _ _).mono ?_; rintro e w3 ⟨rfl, hb3⟩; have hX3 := (unhide HXN).trans (hb3.mono (Nat.le_trans (by simp) (unhide HXN).size)); obtain ⟨q0, q1, g0, g1⟩ := res_there hX3; have HX3 := hide hX3; clear hb3 hX3)
          refine bodyPost_ret (v := .agg #[.int .i64 10, .int .i64 ((j : Int) + 1)]) (by simp [results, Try.results8, go_sem, q0, q1]) rfl ⟨ret_fault ?_, ?_⟩
          · rw [unhide HF, faultFrom_here hlt (by rw [hWj]; decide), hWj]
          · exact ((below_two (unhide HX3)).setCell (Nat.le_succ _) _).setCell (Nat.le_succ _) _
        · have e1 : (z == nx) = false := by simpa using hzn
          cases r with
          | true =>
            have hWj : W j = 10 := by rw [← unhide HW, ringW, hz, if_neg hz0, if_pos (Or.inr hr)]
            clear hz hzn hr
            go_wp2_with fail
            go_region_held3 (fun w' => w'.cell? ⟨w.heap.size, 0, none⟩ = some (.int .i64 nx) ∧ w'.cell? ⟨w.heap.size, 1, none⟩ = some (.slice (some ⟨b, off, none⟩) n c) ∧ w'.cell? ⟨b, off + j, none⟩ = some (.int .i64 z) ∧ Below (w.heap.size + 2) ((w.alloc (.cells #[.int .i64 nx, .slice (some ⟨b, off, none⟩) n c] 25)).alloc (.cells #[.int .i64 0, .int .i64 0] 27)) w')
              ((go_split_ands; refine unhide HSS _ ?_; first | assumption | exact Below.drew (unhide HX)))
              (first | (go_at_call 9; refine (unhide HH _ (by go_split_ands; assumption) _).mono ?_; rintro e w2 ⟨rfl, hb2⟩; have hB2 : Below (w.heap.size + 2) ((w.alloc (.cells #[.int .i64 nx, .slice (some ⟨b, off, none⟩) n c] 25)).alloc (.cells #[.int .i64 0, .int .i64 0] 27)) w2 := below_call (by go_split_ands; assumption) hb2; have HB2 := hide hB2))
            clear hB2 hb2 r0 r1 f0 f1 x0 x1 k0
            go_wp2_with (go_at_call 19; refine (f_any _ _ _).mono ?_; rintro e w3 ⟨rfl, hb3⟩; have hX3 := (unhide HB2).trans (hb3.mono (Nat.le_trans (by simp) (unhide HB2).size)); obtain ⟨q0, q1, g0, g1⟩ := res_there hX3; have HX3 := hide hX3; clear hb3 hX3)
            refine bodyPost_ret (v := .agg #[.int .i64 10, .int .i64 ((j : Int) + 1)]) (by simp [results, Try.results8, go_sem, q0, q1]) rfl ⟨ret_fault ?_, ?_⟩
            · rw [unhide HF, faultFrom_here hlt (by rw [hWj]; decide), hWj]
            · exact ((below_two (unhide HX3)).setCell (Nat.le_succ _) _).setCell (Nat.le_succ _) _
          | false =>
            have hWj : W j = 0 := by rw [← unhide HW, ringW, hz, if_neg hz0, if_neg (fun h => h.elim hzn (fun h => by rw [hr] at h; cases h))]
            clear hz hzn hr
            go_wp2_with fail
            go_region_held3 (fun w' => w'.cell? ⟨w.heap.size, 0, none⟩ = some (.int .i64 nx) ∧ w'.cell? ⟨w.heap.size, 1, none⟩ = some (.slice (some ⟨b, off, none⟩) n c) ∧ w'.cell? ⟨b, off + j, none⟩ = some (.int .i64 z) ∧ Below (w.heap.size + 2) ((w.alloc (.cells #[.int .i64 nx, .slice (some ⟨b, off, none⟩) n c] 25)).alloc (.cells #[.int .i64 0, .int .i64 0] 27)) w')
              ((go_split_ands; refine unhide HSS _ ?_; first | assumption | exact Below.drew (unhide HX)))
              (first | (go_at_call 9; refine (unhide HH _ (by go_split_ands; assumption) _).mono ?_; rintro e w2 ⟨rfl, hb2⟩; have hB2 : Below (w.heap.size + 2) ((w.alloc (.cells #[.int .i64 nx, .slice (some ⟨b, off, none⟩) n c] 25)).alloc (.cells #[.int .i64 0, .int .i64 0] 27)) w2 := below_call (by go_split_ands; assumption) hb2; have HB2 := hide hB2))
            clear hB2 hb2 r0 r1 f0 f1 x0 x1 k0
            go_wp2_with fail
            go_roundw
            case rel => exact ⟨j + 1, by omega, by go_num, (unhide HF).trans (faultFrom_next hlt hWj), unhide HB2⟩
            case measure => simp [intOf]; omega
    · obtain ⟨r0, r1, f0, f1⟩ := res_there hnx
      obtain ⟨x0, x1⟩ := arg_there hnx
      have HX := hide hnx
      clear hnx
      go_wp2
      refine bodyPost_ret (v := .agg #[.int .i64 0, .int .i64 0]) (by simp [results, Try.results8, go_sem, r0, r1]) rfl ⟨ret_fault ((unhide HF).trans (faultFrom_none (by omega))), ?_⟩
      exact ((below_two (unhide HX)).setCell (Nat.le_succ _) _).setCell (Nat.le_succ _) _

/-- A slice's length is at most its capacity. -/
def Fits (v : Value) : Prop := ∀ a n c, v = .slice a n c → n ≤ c

theorem rfault_any (w : World) (nx : Int) (v : Value) (zs : List Int) (h : IsInts w v zs) (hv : Fits v) (hn : zs.length ≤ maxLen) :
    Calls Try.prog 8 #[.agg #[.int .i64 nx, v]] w fun e w' => e = .returned (faultV (ringF nx zs)) ∧ Below w.heap.size w w' := by
  unfold ringF
  by_cases h1 : 256 < zs.length
  · rw [if_pos h1]
    obtain ⟨a, c, rfl⟩ := Rd.form h
    exact rfault_many w nx a zs.length c h1 hn
  · rw [if_neg h1]
    by_cases h2 : nx < 0
    · rw [if_pos h2]
      obtain ⟨a, c, rfl⟩ := Rd.form h
      exact rfault_neg w nx a zs.length c (by omega) h2
    · rw [if_neg h2]
      by_cases h0 : 0 < zs.length
      · obtain ⟨b, off, c, e, hb, hc⟩ := h.at h0
        subst e
        exact rfault_some w nx b off c zs (by omega) h2 hb h (hv _ _ _ rfl) hc
      · obtain ⟨a, c, rfl⟩ := Rd.form h
        have e0 : zs.length = 0 := by omega
        rw [e0]
        exact rfault_zero w nx a c h2
end Go.Proofs.Ytcdnennfimbgoab
