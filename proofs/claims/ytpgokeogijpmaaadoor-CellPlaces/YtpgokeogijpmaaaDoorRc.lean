/-
  taskmilllaw.CellRuns returns true, whatever lists come in.
-/
import Derived.Test.YtpgokeogijpmaaaDoorRb
namespace Go.Proofs.YtpgokeogijpmaaaDoor
open Go.RowKit

/-- Three faults, each in a block of its own, stay where they are. -/
theorem three_there {w3 w4 w5 w6 : World} {a b c d e f : Value} (h4 : Below (w3.alloc (.cells #[a, b] 27)).heap.size (w3.alloc (.cells #[a, b] 27)) w4) (h5 : Below (w4.alloc (.cells #[c, d] 27)).heap.size (w4.alloc (.cells #[c, d] 27)) w5) (h6 : Below (w5.alloc (.cells #[e, f] 27)).heap.size (w5.alloc (.cells #[e, f] 27)) w6) :
    (w6.cell? ⟨w3.heap.size, 0, none⟩ = some a ∧ w6.cell? ⟨w3.heap.size, 1, none⟩ = some b) ∧ (w6.cell? ⟨w4.heap.size, 0, none⟩ = some c ∧ w6.cell? ⟨w4.heap.size, 1, none⟩ = some d) ∧ (w6.cell? ⟨w5.heap.size, 0, none⟩ = some e ∧ w6.cell? ⟨w5.heap.size, 1, none⟩ = some f) ∧ w5.heap.size < w6.heap.size := by
  have s4 := h4.size; have s5 := h5.size; have s6 := h6.size
  rw [World.size_alloc] at s4 s5 s6
  have k6 : ∀ (g o : Nat), g < w5.heap.size → w6.cell? ⟨g, o, none⟩ = w5.cell? ⟨g, o, none⟩ := fun g o hg => (h6.cell (p := ⟨g, o, none⟩) (by rw [World.size_alloc]; simp; omega)).trans (World.cell?_alloc_past _ _ _ hg)
  have k5 : ∀ (g o : Nat), g < w4.heap.size → w5.cell? ⟨g, o, none⟩ = w4.cell? ⟨g, o, none⟩ := fun g o hg => (h5.cell (p := ⟨g, o, none⟩) (by rw [World.size_alloc]; simp; omega)).trans (World.cell?_alloc_past _ _ _ hg)
  refine ⟨⟨?_, ?_⟩, ⟨?_, ?_⟩, ⟨?_, ?_⟩, by omega⟩
  · rw [k6 _ _ (by omega), k5 _ _ (by omega), h4.cell (p := ⟨w3.heap.size, 0, none⟩) (by simp)]; simp
  · rw [k6 _ _ (by omega), k5 _ _ (by omega), h4.cell (p := ⟨w3.heap.size, 1, none⟩) (by simp)]; simp
  · rw [k6 _ _ (by omega), h5.cell (p := ⟨w4.heap.size, 0, none⟩) (by simp)]; simp
  · rw [k6 _ _ (by omega), h5.cell (p := ⟨w4.heap.size, 1, none⟩) (by simp)]; simp
  · rw [h6.cell (p := ⟨w5.heap.size, 0, none⟩) (by simp)]; simp
  · rw [h6.cell (p := ⟨w5.heap.size, 1, none⟩) (by simp)]; simp

set_option maxRecDepth 100000 in
set_option maxHeartbeats 1000000 in
theorem runs_fault (w : World) (v0 v1 : Value) (zs : List Int) (os : List Op4) (h0 : IsInts w v0 zs) (h1 : IsOps w v1 os) (lz : zs.length * 8 ≤ 140737488355328) (lo : os.length * 32 ≤ 140737488355328) (x y : Int) (hx : x ≠ 0) (hf : fault zs.length os = (x, y)) :
    Calls Tryd.prog 3 #[v0, v1] w fun e w' => e = .returned (.bool true) ∧ Below w.heap.size w w' := by
  have mz : zs.length ≤ maxLen := by unfold maxLen; omega
  have mo : os.length ≤ maxLen := by unfold maxLen; omega
  have hx1 : (x != 0) = true := by simpa using hx
  have hnot : ∀ (x : Bool) (w : World), (Op.unary .not (.bool x)).run Tryd.prog w = .ok (.bool (!x)) w := fun _ _ => rfl
  have HOW := hide (own_any w v0 zs.length _ h0 (ints_one zs) lz)
  have HOO := hide (fun W (hW : Below w.heap.size w W) => ownOps_any W v1 os.length _ (Rd.below h1 hW) (opsCells_one os) lo)
  have HV0 := hide h0; have HV1 := hide h1
  obtain ⟨a0, c0, rfl⟩ := Rd.form h0
  obtain ⟨a1, c1, rfl⟩ := Rd.form h1
  clear h0 h1
  go_enter Tryd.func3, Tryd.ntmps3
  go_wp2_with fail
  refine (unhide HOW).mono ?_
  rintro e w1 ⟨vx, rfl, hown1, hb1⟩
  have HX1 := hide (IsInts.of_owns hown1 rfl); have HB1 := hide hb1
  clear hown1 hb1 HOW
  go_wp2_with fail
  refine (unhide HOO _ (unhide HB1)).mono ?_
  rintro e w2 ⟨vy, rfl, hown2, hb2⟩
  have hy2 : IsOps w2 vy os := Rd.of_owns hown2
  have hx2 : IsInts w2 vx zs := Rd.below (unhide HX1) hb2
  have hB2 : Below w.heap.size w w2 := (unhide HB1).trans (hb2.mono (unhide HB1).size)
  obtain ⟨ax, cx, rfl⟩ := Rd.form hx2
  obtain ⟨ay, cy, rfl⟩ := Rd.form hy2
  have HCK : Hid (∀ W, Below w2.heap.size w2 W → Calls Tryd.prog 11 #[.slice ax zs.length cx, .slice ay os.length cy] W fun e w' => e = .returned (.agg #[.int .i64 x, .int .i64 y]) ∧ Below W.heap.size W w') := fun W hW => by
    have := check_any W ax zs.length cx _ os (Rd.below hy2 hW) mz mo
    rw [hf] at this
    exact this
  have HRN := hide (fun W (hW : Below w2.heap.size w2 W) => run_fault W ax zs.length cx _ os (Rd.below hy2 hW) mz mo x y hx hf)
  have HOF : Hid (∀ W, Below w2.heap.size w2 W → Calls Tryd.prog 13 #[.slice a0 zs.length c0, .slice a1 os.length c1] W fun e w' => e = .returned (.agg #[.int .i64 x, .int .i64 y]) ∧ Below W.heap.size W w') := fun W hW => by
    have := opsf_any W a0 zs.length c0 _ os (Rd.below (unhide HV1) (hB2.trans (hW.mono hB2.size))) mz mo
    rw [hf] at this
    exact this
  have HIN := hide (fun W (hW : Below w2.heap.size w2 W) => ints_same W _ _ zs (Rd.below hx2 hW) (Rd.below (unhide HV0) (hB2.trans (hW.mono hB2.size))) mz)
  have HSO := hide (fun W (hW : Below w2.heap.size w2 W) => same_ops W _ _ os (Rd.below hy2 hW) (Rd.below (unhide HV1) (hB2.trans (hW.mono hB2.size))) mo)
  have HB2 := hide hB2
  clear hy2 hx2 hB2 hown2 hb2 HX1 HB1 HOO HV0 HV1 hf
  go_wp2_with fail
  refine (unhide HCK _ (Below.refl _ _)).mono ?_
  rintro e w3 ⟨rfl, hb3⟩
  have HB3 := hide hb3
  clear hb3 HCK
  go_wp2_with fail
  refine (unhide HRN _ ((unhide HB3).alloc (unhide HB3).size _)).mono ?_
  rintro e w4 ⟨rfl, hb4⟩
  have H4 := hide hb4
  have HB4 := hide (below_step (unhide HB3) hb4 (unhide HB3).size)
  clear hb4 HRN
  go_wp2_with fail
  refine (unhide HOF _ ((unhide HB4).alloc (unhide HB4).size _)).mono ?_
  rintro e w5 ⟨rfl, hb5⟩
  have H5 := hide hb5
  have HB5 := hide (below_step (unhide HB4) hb5 (unhide HB4).size)
  clear hb5 HOF
  go_wp2_with fail
  refine (begun_any _).mono ?_
  rintro e w6 ⟨rfl, hb6⟩
  have HB6 := hide (below_step (unhide HB5) hb6 (unhide HB5).size)
  obtain ⟨⟨p0, p1⟩, ⟨p2, p3⟩, ⟨p4, p5⟩, hs6⟩ := three_there (unhide H4) (unhide H5) hb6
  clear hb6 H4 H5
  go_wp2_with fail
  refine (unhide HIN _ (unhide HB6)).mono ?_
  rintro e w7 ⟨rfl, hb7⟩
  have HB7 := hide ((unhide HB6).trans (hb7.mono (unhide HB6).size))
  have q4 := (hb7.cell (p := ⟨w5.heap.size, 0, none⟩) hs6).trans p4
  have q5 := (hb7.cell (p := ⟨w5.heap.size, 1, none⟩) hs6).trans p5
  have hs7 := Nat.lt_of_lt_of_le hs6 hb7.size
  clear hb7 HIN p0 p1 p2 p3 p4 p5
  go_wp2_with fail
  refine (unhide HSO _ (unhide HB7)).mono ?_
  rintro e w8 ⟨rfl, hb8⟩
  have HB8 := hide ((unhide HB7).trans (hb8.mono (unhide HB7).size))
  have s4 := (hb8.cell (p := ⟨w5.heap.size, 0, none⟩) hs7).trans q4
  have s5 := (hb8.cell (p := ⟨w5.heap.size, 1, none⟩) hs7).trans q5
  clear hb8 HSO q4 q5
  go_wp2
  go_ret
  exact ⟨rfl, (unhide HB2).trans ((unhide HB8).mono (unhide HB2).size)⟩

set_option maxRecDepth 100000 in
set_option maxHeartbeats 1000000 in
theorem runs_ok (w : World) (v0 v1 : Value) (zs : List Int) (os : List Op4) (h0 : IsInts w v0 zs) (h1 : IsOps w v1 os) (lz : zs.length * 8 ≤ 140737488355328) (lo : os.length * 32 ≤ 140737488355328) (hf : (fault zs.length os).1 = 0) :
    Calls Tryd.prog 3 #[v0, v1] w fun e w' => e = .returned (.bool true) ∧ Below w.heap.size w w' := by
  have mz : zs.length ≤ maxLen := by unfold maxLen; omega
  have mo : os.length ≤ maxLen := by unfold maxLen; omega
  have hfp := fault_pair hf
  have hnot : ∀ (x : Bool) (w : World), (Op.unary .not (.bool x)).run Tryd.prog w = .ok (.bool (!x)) w := fun _ _ => rfl
  have HOW := hide (own_any w v0 zs.length _ h0 (ints_one zs) lz)
  have HOO := hide (fun W (hW : Below w.heap.size w W) => ownOps_any W v1 os.length _ (Rd.below h1 hW) (opsCells_one os) lo)
  have HV0 := hide h0; have HV1 := hide h1
  obtain ⟨a0, c0, rfl⟩ := Rd.form h0
  obtain ⟨a1, c1, rfl⟩ := Rd.form h1
  clear h0 h1
  go_enter Tryd.func3, Tryd.ntmps3
  go_wp2_with fail
  refine (unhide HOW).mono ?_
  rintro e w1 ⟨vx, rfl, hown1, hb1⟩
  have HX1 := hide (IsInts.of_owns hown1 rfl); have HB1 := hide hb1
  clear hown1 hb1 HOW
  go_wp2_with fail
  refine (unhide HOO _ (unhide HB1)).mono ?_
  rintro e w2 ⟨vy, rfl, hown2, hb2⟩
  have hy2 : IsOps w2 vy os := Rd.of_owns hown2
  have hx2 : IsInts w2 vx zs := Rd.below (unhide HX1) hb2
  have hB2 : Below w.heap.size w w2 := (unhide HB1).trans (hb2.mono (unhide HB1).size)
  obtain ⟨ax, cx, rfl⟩ := Rd.form hx2
  obtain ⟨ay, cy, rfl⟩ := Rd.form hy2
  have HCK : Hid (∀ W, Below w2.heap.size w2 W → Calls Tryd.prog 11 #[.slice ax zs.length cx, .slice ay os.length cy] W fun e w' => e = .returned (.agg #[.int .i64 0, .int .i64 0]) ∧ Below W.heap.size W w') := fun W hW => by
    have := check_any W ax zs.length cx _ os (Rd.below hy2 hW) mz mo
    rw [hfp] at this
    exact this
  have HRN := hide (fun W (hW : Below w2.heap.size w2 W) => run_read W _ zs _ os (Rd.below hx2 hW) (Rd.below hy2 hW) hf)
  have HRA := hide (fun W (hW : Below w2.heap.size w2 W) => ran_ok W _ zs _ os (Rd.below (unhide HV0) (hB2.trans (hW.mono hB2.size))) (Rd.below (unhide HV1) (hB2.trans (hW.mono hB2.size))) hf)
  have HOF : Hid (∀ W, Below w2.heap.size w2 W → Calls Tryd.prog 13 #[.slice a0 zs.length c0, .slice a1 os.length c1] W fun e w' => e = .returned (.agg #[.int .i64 0, .int .i64 0]) ∧ Below W.heap.size W w') := fun W hW => by
    have := opsf_any W a0 zs.length c0 _ os (Rd.below (unhide HV1) (hB2.trans (hW.mono hB2.size))) mz mo
    rw [hfp] at this
    exact this
  have HIN := hide (fun W (hW : Below w2.heap.size w2 W) => ints_same W _ _ zs (Rd.below hx2 hW) (Rd.below (unhide HV0) (hB2.trans (hW.mono hB2.size))) mz)
  have HSO := hide (fun W (hW : Below w2.heap.size w2 W) => same_ops W _ _ os (Rd.below hy2 hW) (Rd.below (unhide HV1) (hB2.trans (hW.mono hB2.size))) mo)
  have HB2 := hide hB2
  clear hy2 hx2 hB2 hown2 hb2 HX1 HB1 HOO HV0 HV1 hf hfp
  go_wp2_with fail
  refine (unhide HCK _ (Below.refl _ _)).mono ?_
  rintro e w3 ⟨rfl, hb3⟩
  have HB3 := hide hb3
  clear hb3 HCK
  go_wp2_with fail
  refine (unhide HRN _ ((unhide HB3).alloc (unhide HB3).size _)).mono ?_
  rintro e w4 ⟨am, cm, at', ct, rfl, hm4, ht4, hb4⟩
  have HM4 := hide hm4; have HT4 := hide ht4
  clear hm4 ht4
  have H4 := hide hb4
  have HB4 := hide (below_step (unhide HB3) hb4 (unhide HB3).size)
  clear hb4 HRN
  go_wp2_with fail
  refine (unhide HOF _ ((unhide HB4).alloc (unhide HB4).size _)).mono ?_
  rintro e w5 ⟨rfl, hb5⟩
  have H5 := hide hb5
  have HB5 := hide (below_step (unhide HB4) hb5 (unhide HB4).size)
  clear hb5 HOF
  go_wp2_with fail
  refine (begun_any _).mono ?_
  rintro e w6 ⟨rfl, hb6⟩
  have HB6 := hide (below_step (unhide HB5) hb6 (unhide HB5).size)
  have b45 := below_step (Below.refl _ w4) (unhide H5) (Nat.le_refl _)
  have HB46 := hide (below_step b45 hb6 b45.size)
  clear b45
  obtain ⟨⟨p0, p1⟩, ⟨p2, p3⟩, ⟨p4, p5⟩, hs6⟩ := three_there (unhide H4) (unhide H5) hb6
  clear hb6 H4 H5
  go_wp2_with fail
  refine (unhide HIN _ (unhide HB6)).mono ?_
  rintro e w7 ⟨rfl, hb7⟩
  have HB7 := hide ((unhide HB6).trans (hb7.mono (unhide HB6).size))
  have HB47 := hide ((unhide HB46).trans (hb7.mono (unhide HB46).size))
  have q4 := (hb7.cell (p := ⟨w5.heap.size, 0, none⟩) hs6).trans p4
  have q5 := (hb7.cell (p := ⟨w5.heap.size, 1, none⟩) hs6).trans p5
  have hs7 := Nat.lt_of_lt_of_le hs6 hb7.size
  clear hb7 HIN p0 p1 p2 p3 p4 p5
  go_wp2_with fail
  refine (unhide HSO _ (unhide HB7)).mono ?_
  rintro e w8 ⟨rfl, hb8⟩
  have HB8 := hide ((unhide HB7).trans (hb8.mono (unhide HB7).size))
  have HB48 := hide ((unhide HB47).trans (hb8.mono (unhide HB47).size))
  have s4 := (hb8.cell (p := ⟨w5.heap.size, 0, none⟩) hs7).trans q4
  have s5 := (hb8.cell (p := ⟨w5.heap.size, 1, none⟩) hs7).trans q5
  clear hb8 HSO q4 q5
  go_wp2_with fail
  refine (unhide HRA _ (unhide HB8)).mono ?_
  rintro e w9 ⟨ma, ta, rfl, hm9, ht9, hb9⟩
  have HB9 := hide ((unhide HB8).trans (hb9.mono (unhide HB8).size))
  have hB49 := (unhide HB48).trans (hb9.mono (unhide HB48).size)
  have lm := ranMem_length os zs
  have lt := ranTold_length os zs
  have HI1 := hide (ints_same w9 _ _ _ (Rd.below (unhide HM4) hB49) hm9 (by omega))
  have HI2 := hide (fun W (hW : Below w9.heap.size w9 W) => ints_same W _ _ _ (Rd.below (Rd.below (unhide HT4) hB49) hW) (Rd.below ht9 hW) (by omega))
  clear hb9 hB49 hm9 ht9 HRA lm lt
  go_wp2_with fail
  refine (unhide HI1).mono ?_
  rintro e w10 ⟨rfl, hb10⟩
  have HB10 := hide ((unhide HB9).trans (hb10.mono (unhide HB9).size))
  have H10 := hide hb10
  clear hb10 HI1
  go_wp2_with fail
  refine (unhide HI2 _ (unhide H10)).mono ?_
  rintro e w11 ⟨rfl, hb11⟩
  have HB11 := hide ((unhide HB10).trans (hb11.mono (unhide HB10).size))
  clear hb11 HI2
  go_wp2
  go_ret
  exact ⟨rfl, (unhide HB2).trans ((unhide HB11).mono (unhide HB2).size)⟩

theorem runs_walk (w : World) (v0 v1 : Value) (zs : List Int) (os : List Op4) (h0 : IsInts w v0 zs) (h1 : IsOps w v1 os) (lz : zs.length * 8 ≤ 140737488355328) (lo : os.length * 32 ≤ 140737488355328) :
    Calls Tryd.prog 3 #[v0, v1] w fun e w' => e = .returned (.bool true) ∧ Below w.heap.size w w' := by
  by_cases hf : (fault zs.length os).1 = 0
  · exact runs_ok w v0 v1 zs os h0 h1 lz lo hf
  · exact runs_fault w v0 v1 zs os h0 h1 lz lo _ _ hf rfl
end Go.Proofs.YtpgokeogijpmaaaDoor
