/-
  taskmilllaw.AlarmTimes returns true.
-/
import Derived.Test.YtcfjpjojckngeaaY
namespace Go.Proofs.Ytcfjpjojckngeaa
open Go.RowKit

set_option maxRecDepth 100000 in
set_option maxHeartbeats 1000000 in
theorem times_long (w : World) (a : Option Addr) (n c : Nat) (p q : Int) (hl : 200 < n) (hm : n ≤ maxLen) :
    Calls Try.prog 7 #[.slice a n c, .int .i64 p, .int .i64 q] w fun e w' => e = .returned (.bool true) ∧ Below w.heap.size w w' := by
  have hnot : ∀ (x : Bool) (w : World), (Op.unary .not (.bool x)).run Try.prog w = .ok (.bool (!x)) w := fun _ _ => rfl
  unfold maxLen at hm
  have h1 : (200 : Int) < (n : Int) := by omega
  go_enter Try.func7, Try.ntmps7
  go_wp2_with (go_at_call 8; refine (begun_any _).mono ?_; rintro e w1 ⟨rfl, hb1⟩; have HX1 := hide hb1; clear hb1)
  go_ret
  exact ⟨rfl, unhide HX1⟩

set_option maxRecDepth 100000 in
set_option maxHeartbeats 1000000 in
theorem times_after (w : World) (a : Option Addr) (n c : Nat) (p q : Int) (hl : n ≤ 200) (hpq : q < p) :
    Calls Try.prog 7 #[.slice a n c, .int .i64 p, .int .i64 q] w fun e w' => e = .returned (.bool true) ∧ Below w.heap.size w w' := by
  have hnot : ∀ (x : Bool) (w : World), (Op.unary .not (.bool x)).run Try.prog w = .ok (.bool (!x)) w := fun _ _ => rfl
  have h1 : ¬ (200 : Int) < (n : Int) := by omega
  go_enter Try.func7, Try.ntmps7
  go_wp2_with (go_at_call 8; refine (begun_any _).mono ?_; rintro e w1 ⟨rfl, hb1⟩; have HX1 := hide hb1; clear hb1)
  go_ret
  exact ⟨rfl, unhide HX1⟩

set_option maxRecDepth 100000 in
set_option maxHeartbeats 8000000 in
theorem times_wrong (w : World) (a : Option Addr) (n c : Nat) (p q : Int) (ts : List Tm) (hl : ts.length = n) (h : IsTs w (.slice a n c) ts) (hn : n ≤ 200) (hpq : ¬ q < p) (u v : Int) (hf : madeF ts = (u, v)) (hu : u ≠ 0) :
    Calls Try.prog 7 #[.slice a n c, .int .i64 p, .int .i64 q] w fun e w' => e = .returned (.bool true) ∧ Below w.heap.size w w' := by
  have hnot : ∀ (x : Bool) (w : World), (Op.unary .not (.bool x)).run Try.prog w = .ok (.bool (!x)) w := fun _ _ => rfl
  have h1 : ¬ (200 : Int) < (n : Int) := by omega
  have hu1 : (u != 0) = true := by simpa using hu
  have HMD : Hid (∀ W, Below w.heap.size w W → Calls Try.prog 19 #[.slice a n c] W fun e w' => e = .returned (.tuple #[.slice none 0 0, .agg #[.int .i64 u, .int .i64 v]]) ∧ Below W.heap.size W w') := fun W hW => made_fault W _ ts (IsTs.below h hW) (by rw [hl]; unfold maxLen; omega) u v hf hu
  clear h hf hu hl
  go_enter Try.func7, Try.ntmps7
  go_wp2_with (first
    | (go_at_call 8; refine (begun_any _).mono ?_; rintro e w1 ⟨rfl, hb1⟩; have HX1 := hide hb1; clear hb1)
    | (go_at_call 19; refine (unhide HMD _ (unhide HX1)).mono ?_; rintro e w2 ⟨rfl, hb2⟩; have HX2 := hide ((unhide HX1).trans (hb2.mono (unhide HX1).size)); clear hb2))
  go_ret
  exact ⟨rfl, (unhide HX2).alloc (unhide HX2).size _⟩

theorem Below.next {B : Nat} {w w1 w2 : World} (h : Below B w w1) (h2 : Below w1.heap.size w1 w2) (hs : B ≤ w.heap.size) : Below B w w2 := h.trans (h2.mono (Nat.le_trans hs h.size))

/-- Two faults in variables of their own. -/
theorem new_two (w : World) (x y : Value) : (w.alloc (.cells #[x, y] 28)).heap[w.heap.size]? = some (.cells #[x, y] 28 (0, 0)) := new_block w _

set_option maxRecDepth 100000 in
set_option maxHeartbeats 4000000 in
theorem times_ok (w : World) (a : Option Addr) (n c : Nat) (p q : Int) (ts : List Tm) (hl : ts.length = n) (h : IsTs w (.slice a n c) ts) (hn : n ≤ 200) (hpq : ¬ q < p) (hf : madeF ts = (0, 0)) :
    Calls Try.prog 7 #[.slice a n c, .int .i64 p, .int .i64 q] w fun e w' => e = .returned (.bool true) ∧ Below w.heap.size w w' := by
  have hnot : ∀ (x : Bool) (w : World), (Op.unary .not (.bool x)).run Try.prog w = .ok (.bool (!x)) w := fun _ _ => rfl
  have h1 : ¬ (200 : Int) < (n : Int) := by omega
  have hle : p ≤ q := by omega
  have HMD : Hid (∀ W, Below w.heap.size w W → Calls Try.prog 19 #[.slice a n c] W fun e w' => ∃ a1 c1, e = .returned (.tuple #[.slice a1 n c1, .agg #[.int .i64 0, .int .i64 0]]) ∧ Own W.heap.size w' (.slice a1 n c1) (madeL ts) ∧ Below W.heap.size W w') := fun W hW => made_ok W a n c ts hl (IsTs.below h hW) hf
  have hmc : ∀ t, (madeL ts).count t = ts.count t := fun t => madeL_count t ts
  have hml : (madeL ts).length = n := by rw [madeL_length, hl]
  have hmo : ∀ t, t ∈ madeL ts → ¬ oor t := fun t ht => by
    obtain ⟨j, hj, e⟩ := List.getElem_of_mem (mem_of_count hmc ht)
    rw [← e, ← tAt_get hj]
    exact made_each hf hj
  have hmh := madeL_heap ts
  have hmf := heapF_good (by omega) hmo hmh
  obtain ⟨M, hM⟩ : ∃ M, madeL ts = M := ⟨_, rfl⟩
  rw [hM] at HMD hmc hml hmo hmh hmf
  have hgf := dueL_good hmf p
  obtain ⟨e2a, e2b⟩ := dueL_two hle M
  have hrise := dueL_rising hmh q
  have hnone := fun j => @dueL_none M hmh q j
  have hzc := dueL_count M q
  have hzl := dueF_length q M.length M []
  have hgl := dueF_length p M.length M []
  have HD1 : Hid (∀ W v', IsTs W v' M → Calls Try.prog 21 #[v', .int .i64 p] W fun e w' => ∃ a1 c1 a2 c2, e = .returned (.tuple #[.slice a1 (dueL M p).1.length c1, .slice a2 (dueL M p).2.length c2, .agg #[.int .i64 0, .int .i64 0]]) ∧ Own W.heap.size w' (.slice a1 (dueL M p).1.length c1) (dueL M p).1 ∧ Own W.heap.size w' (.slice a2 (dueL M p).2.length c2) (dueL M p).2 ∧ Below W.heap.size W w') := fun W v' hW => due_ok W v' p M hW hmf
  have HD2 : Hid (∀ W v', IsTs W v' (dueL M p).1 → Calls Try.prog 21 #[v', .int .i64 q] W fun e w' => ∃ a1 c1 a2 c2, e = .returned (.tuple #[.slice a1 (dueL (dueL M p).1 q).1.length c1, .slice a2 (dueL (dueL M p).1 q).2.length c2, .agg #[.int .i64 0, .int .i64 0]]) ∧ Own W.heap.size w' (.slice a1 (dueL (dueL M p).1 q).1.length c1) (dueL (dueL M p).1 q).1 ∧ Own W.heap.size w' (.slice a2 (dueL (dueL M p).1 q).2.length c2) (dueL (dueL M p).1 q).2 ∧ Below W.heap.size W w') := fun W v' hW => due_ok W v' q _ hW hgf
  have HD3 : Hid (∀ W v', IsTs W v' M → Calls Try.prog 21 #[v', .int .i64 q] W fun e w' => ∃ a1 c1 a2 c2, e = .returned (.tuple #[.slice a1 (dueL M q).1.length c1, .slice a2 (dueL M q).2.length c2, .agg #[.int .i64 0, .int .i64 0]]) ∧ Own W.heap.size w' (.slice a1 (dueL M q).1.length c1) (dueL M q).1 ∧ Own W.heap.size w' (.slice a2 (dueL M q).2.length c2) (dueL M q).2 ∧ Below W.heap.size W w') := fun W v' hW => due_ok W v' q M hW hmf
  change (dueL M q).1.length + (dueL M q).2.length = M.length + 0 at hzl
  change (dueL M p).1.length + (dueL M p).2.length = M.length + 0 at hgl
  rw [e2a] at HD2
  obtain ⟨Y, hY⟩ : ∃ Y, (dueL (dueL M p).1 q).2 = Y := ⟨_, rfl⟩
  obtain ⟨G, hG⟩ : ∃ G, (dueL M p).1 = G := ⟨_, rfl⟩
  obtain ⟨X, hX⟩ : ∃ X, (dueL M p).2 = X := ⟨_, rfl⟩
  obtain ⟨P, hP⟩ : ∃ P, (dueL M q).1 = P := ⟨_, rfl⟩
  obtain ⟨Z, hZ⟩ : ∃ Z, (dueL M q).2 = Z := ⟨_, rfl⟩
  rw [hY] at HD2 e2b
  rw [hX, hZ] at e2b
  rw [hG, hP] at HD2
  rw [hG, hX] at HD1 hgl
  rw [hP, hZ] at HD3 hzl hrise
  rw [hP, hZ] at hzc
  rw [hP] at hnone
  have hyl : X.length + Y.length = Z.length := by rw [← e2b, List.length_append]
  obtain ⟨gl, egl⟩ : ∃ k, G.length = k := ⟨_, rfl⟩
  obtain ⟨xl, exl⟩ : ∃ k, X.length = k := ⟨_, rfl⟩
  obtain ⟨yl, eyl⟩ : ∃ k, Y.length = k := ⟨_, rfl⟩
  obtain ⟨pl, epl⟩ : ∃ k, P.length = k := ⟨_, rfl⟩
  obtain ⟨zl, ezl⟩ : ∃ k, Z.length = k := ⟨_, rfl⟩
  rw [egl, exl] at HD1
  rw [epl, eyl] at HD2
  rw [epl, ezl] at HD3
  have hpn : pl ≤ 200 := by omega
  have hzn : zl ≤ 200 := by omega
  have hzpn : zl + pl = n := by omega
  have hxyz : xl + yl = zl := by omega
  have HSP : Hid (∀ W v v', IsTs W v P → IsTs W v' P → Calls Try.prog 13 #[v, v'] W fun e w' => e = .returned (.bool true) ∧ Below W.heap.size W w') := fun W v v' h2 h3 => same_any W v v' P h2 h3 (by rw [epl]; unfold maxLen; omega)
  have HSZ : Hid (∀ W v v', IsTs W v (X ++ Y) → IsTs W v' Z → Calls Try.prog 13 #[v, v'] W fun e w' => e = .returned (.bool true) ∧ Below W.heap.size W w') := fun W v v' h2 h3 => same_any W v v' Z (by rw [← e2b]; exact h2) h3 (by rw [ezl]; unfold maxLen; omega)
  have HOX : Hid (∀ W v, IsTs W v X → Calls Try.prog 9 #[v] W fun e w' => ∃ a' c', e = .returned (.slice a' xl c') ∧ Own W.heap.size w' (.slice a' xl c') X ∧ Below W.heap.size W w') := fun W v hW => by
    have := own_any W v X hW (by omega)
    rw [exl] at this
    exact this
  have HOZ : Hid (∀ W v, IsTs W v Z → Calls Try.prog 9 #[v] W fun e w' => ∃ a' c', e = .returned (.slice a' zl c') ∧ Own W.heap.size w' (.slice a' zl c') Z ∧ Below W.heap.size W w') := fun W v hW => by
    have := own_any W v Z hW (by omega)
    rw [ezl] at this
    exact this
  have HCT : Hid (∀ W v v', IsTs W v (Z ++ P) → IsTs W v' ts → Calls Try.prog 22 #[v, v'] W fun e w' => e = .returned (.bool true) ∧ Below W.heap.size W w') := fun W v v' h2 h3 => counted_any W v v' (Z ++ P) ts h2 h3 (by rw [List.length_append]; omega) (by rw [List.length_append]; omega) (fun t => by rw [hzc, hmc])
  have HV := hide h
  have HRI := hide hrise; have HNO := hide hnone
  have HEX := hide exl; have HEY := hide eyl; have HEP := hide epl; have HEZ := hide ezl
  clear h hf hl hmc hml hmo hmh hmf hM hgf e2a e2b hrise hnone hzc hzl hgl hY hG hX hP hZ hyl egl exl eyl epl ezl hle
  go_enter Try.func7, Try.ntmps7
  go_upto_region 6 with (first
    | (go_at_call 8; refine (begun_any _).mono ?_; rintro e w1 ⟨rfl, hb1⟩; have HX1 := hide hb1; clear hb1)
    | (go_at_call 19; refine (unhide HMD _ (unhide HX1)).mono ?_; rintro e w2 ⟨am, cm, rfl, hom, hb2⟩; have HX2 := hide (Below.next (unhide HX1) hb2 (Nat.le_refl _)); have HOM := hide (hom.ts); clear hom hb2))
  have HBA := hide ((Below.refl w2.heap.size w2).alloc (Nat.le_refl _) (.cells #[.int .i64 0, .int .i64 0] 28))
  have B8 := hide (new_block w2 (.cells #[.int .i64 0, .int .i64 0] 28))
  have HX3 := hide (Below.next (unhide HX2) (unhide HBA) (Nat.le_refl _))
  have HM3 := hide (IsTs.below (unhide HOM) (unhide HBA))
  obtain ⟨W3, eW3⟩ : ∃ W, w2.alloc (.cells #[.int .i64 0, .int .i64 0] 28) = W := ⟨_, rfl⟩
  obtain ⟨s8, e8⟩ : ∃ s, w2.heap.size = s := ⟨_, rfl⟩
  rw [eW3, e8] at B8
  rw [eW3] at HX3 HM3
  rw [eW3, e8]
  clear eW3 e8 HX1 HX2 HOM HMD HBA
  obtain ⟨t0, t1, _, _, _⟩ := block2 (unhide B8)
  go_upto_region 9 with (go_at_call 21; refine (unhide HD1 _ _ (unhide HM3)).mono ?_; rintro e w4 ⟨ag, cg, ax, cx, rfl, hog, hox, hb4⟩; have HX4 := hide (Below.next (unhide HX3) hb4 (Nat.le_refl _)); have HG4 := hide hog.ts; have HXX4 := hide hox.ts; have HM4 := hide (IsTs.below (unhide HM3) hb4); clear hog hox hb4 t0 t1)
  have HBA := hide ((Below.refl w4.heap.size w4).alloc (Nat.le_refl _) (.cells #[.int .i64 0, .int .i64 0] 28))
  have B11 := hide (new_block w4 (.cells #[.int .i64 0, .int .i64 0] 28))
  have HX5 := hide (Below.next (unhide HX4) (unhide HBA) (Nat.le_refl _))
  have HM5 := hide (IsTs.below (unhide HM4) (unhide HBA))
  have HG5 := hide (IsTs.below (unhide HG4) (unhide HBA))
  have HXX5 := hide (IsTs.below (unhide HXX4) (unhide HBA))
  obtain ⟨W5, eW5⟩ : ∃ W, w4.alloc (.cells #[.int .i64 0, .int .i64 0] 28) = W := ⟨_, rfl⟩
  obtain ⟨s11, e11⟩ : ∃ s, w4.heap.size = s := ⟨_, rfl⟩
  rw [eW5, e11] at B11
  rw [eW5] at HX5 HM5 HG5 HXX5
  rw [eW5, e11]
  clear eW5 e11 HX3 HX4 HM3 HM4 HG4 HXX4 HD1 HBA B8
  obtain ⟨t0, t1, _, _, _⟩ := block2 (unhide B11)
  go_upto_region 12 with (go_at_call 21; refine (unhide HD2 _ _ (unhide HG5)).mono ?_; rintro e w6 ⟨ak, ck, ay, cy, rfl, hok, hoy, hb6⟩; have HX6 := hide (Below.next (unhide HX5) hb6 (Nat.le_refl _)); have HK6 := hide hok.ts; have HY6 := hide hoy.ts; have HM6 := hide (IsTs.below (unhide HM5) hb6); have HXX6 := hide (IsTs.below (unhide HXX5) hb6); clear hok hoy hb6 t0 t1)
  have HBA := hide ((Below.refl w6.heap.size w6).alloc (Nat.le_refl _) (.cells #[.int .i64 0, .int .i64 0] 28))
  have B14 := hide (new_block w6 (.cells #[.int .i64 0, .int .i64 0] 28))
  have HX7 := hide (Below.next (unhide HX6) (unhide HBA) (Nat.le_refl _))
  have HM7 := hide (IsTs.below (unhide HM6) (unhide HBA))
  have HK7 := hide (IsTs.below (unhide HK6) (unhide HBA))
  have HY7 := hide (IsTs.below (unhide HY6) (unhide HBA))
  have HXX7 := hide (IsTs.below (unhide HXX6) (unhide HBA))
  obtain ⟨W7, eW7⟩ : ∃ W, w6.alloc (.cells #[.int .i64 0, .int .i64 0] 28) = W := ⟨_, rfl⟩
  obtain ⟨s14, e14⟩ : ∃ s, w6.heap.size = s := ⟨_, rfl⟩
  rw [eW7, e14] at B14
  rw [eW7] at HX7 HM7 HK7 HY7 HXX7
  rw [eW7, e14]
  clear eW7 e14 HX5 HX6 HM5 HM6 HG5 HK6 HY6 HXX5 HXX6 HD2 HBA B11
  go_upto_region 13 with (go_at_call 21; refine (unhide HD3 _ _ (unhide HM7)).mono ?_; rintro e w8 ⟨ap, cp, az, cz, rfl, hop, hoz, hb8⟩; have HX8 := hide (Below.next (unhide HX7) hb8 (Nat.le_refl _)); have HP8 := hide hop.ts; have HZ8 := hide hoz.ts; have HK8 := hide (IsTs.below (unhide HK7) hb8); have HY8 := hide (IsTs.below (unhide HY7) hb8); have HXX8 := hide (IsTs.below (unhide HXX7) hb8); have B148 := hide (keep_below (unhide B14) hb8); clear hop hoz hb8)
  have HBA := hide ((Below.refl w8.heap.size w8).alloc (Nat.le_refl _) (.cells #[.int .i64 0, .int .i64 0] 28))
  have B17 := hide (new_block w8 (.cells #[.int .i64 0, .int .i64 0] 28))
  have B149 := hide (keep_alloc (unhide B148) (.cells #[.int .i64 0, .int .i64 0] 28))
  have HX9 := hide (Below.next (unhide HX8) (unhide HBA) (Nat.le_refl _))
  have HP9 := hide (IsTs.below (unhide HP8) (unhide HBA))
  have HZ9 := hide (IsTs.below (unhide HZ8) (unhide HBA))
  have HK9 := hide (IsTs.below (unhide HK8) (unhide HBA))
  have HY9 := hide (IsTs.below (unhide HY8) (unhide HBA))
  have HXX9 := hide (IsTs.below (unhide HXX8) (unhide HBA))
  obtain ⟨W9, eW9⟩ : ∃ W, w8.alloc (.cells #[.int .i64 0, .int .i64 0] 28) = W := ⟨_, rfl⟩
  obtain ⟨s17, e17⟩ : ∃ s, w8.heap.size = s := ⟨_, rfl⟩
  rw [eW9, e17] at B17
  rw [eW9] at HX9 HP9 HZ9 HK9 HY9 HXX9 B149
  rw [eW9, e17]
  clear eW9 e17 HX7 HX8 HM7 HK7 HY7 HP8 HZ8 HK8 HY8 HXX7 HXX8 HD3 HBA B14 B148
  obtain ⟨t0, t1, _, _, _⟩ := block2 (unhide B149)
  obtain ⟨u0, u1, _, _, _⟩ := block2 (unhide B17)
  go_upto_region 15 with (first
    | (go_at_call 13; (with_reducible refine Calls.mono (unhide HSP _ _ _ (unhide HK9) (unhide HP9)) ?_); rintro e wa ⟨rfl, hba⟩; have HA := hide hba; clear hba t0 t1 u0 u1)
    | (go_at_call 9; (with_reducible refine Calls.mono (unhide HOX _ _ (IsTs.below (unhide HXX9) (unhide HA))) ?_); rintro e wb ⟨ab, cb, rfl, hob, hbb⟩; have HOB := hide hob; have HB := hide hbb; clear hob hbb)
    | (at_builtin; refine wpList_append_ts rfl (.tmp 78) (.tmp 79) rfl wa.heap.size (.slice ab xl cb) X rfl (unhide HOB) _ Y rfl (IsTs.below (IsTs.below (unhide HY9) (unhide HA)) (unhide HB)) zl (by rw [unhide HEX, unhide HEY]; exact hxyz) (by omega) (unhide HB).size ?_; intro ac cc wc hoc hgc; have HIC := hide hoc.ts; have HC := hide ((unhide HB).grown hgc (unhide HB).size (fun k hk => ((unhide HOB).lt k hk).1)); clear hoc hgc)
    | (go_at_call 13; (with_reducible refine Calls.mono (unhide HSZ _ _ _ (unhide HIC) (IsTs.below (IsTs.below (unhide HZ9) (unhide HA)) (unhide HC))) ?_); rintro e wd ⟨rfl, hbd⟩; have HDD := hide (Below.next (Below.next (unhide HA) (unhide HC) (Nat.le_refl _)) hbd (Nat.le_refl _)); clear hbd))
  have HXD := hide (Below.next (unhide HX9) (unhide HDD) (Nat.le_refl _))
  have HZD := hide (IsTs.below (unhide HZ9) (unhide HDD))
  have HPD := hide (IsTs.below (unhide HP9) (unhide HDD))
  clear HX9 HP9 HZ9 HK9 HY9 HXX9 B149 B17 HA HB HC HIC HOB HDD HSP HSZ HOX
  have HAZ : Hid (0 < zl → ∃ b off, az = some ⟨b, off, none⟩ ∧ b < wd.heap.size ∧ Cells wd b off Z) := fun h0 => by
    obtain ⟨b, off, c, e, hb, hc⟩ := (unhide HZD).at (by rw [unhide HEZ]; exact h0)
    rw [unhide HEZ] at e
    cases e
    exact ⟨b, off, rfl, hb, hc⟩
  have HAP : Hid (0 < pl → ∃ b off, ap = some ⟨b, off, none⟩ ∧ b < wd.heap.size ∧ Cells wd b off P) := fun h0 => by
    obtain ⟨b, off, c, e, hb, hc⟩ := (unhide HPD).at (by rw [unhide HEP]; exact h0)
    rw [unhide HEP] at e
    cases e
    exact ⟨b, off, rfl, hb, hc⟩
  go_wp2_with fail
  go_loopw [18] (fun i wr => ∃ j : Nat, j ≤ zl ∧ i = .int .i64 j ∧ Below wd.heap.size wd wr) (fun i _ => zl - (intOf i).toNat)
  case atStart => exact ⟨0, Nat.zero_le _, rfl, Below.refl _ _⟩
  case round =>
    obtain ⟨j, hj, rfl, hnx⟩ := hrel
    by_cases hlt : j < zl
    · obtain ⟨b, off, rfl, hb, hc⟩ := unhide HAZ (by omega)
      obtain ⟨k0, _⟩ := hc.below hnx hb j (by rw [unhide HEZ]; exact hlt)
      have hd1 := (unhide HRI).due j (by rw [unhide HEZ]; exact hlt)
      have i0 : (0 : Int) ≤ (j : Int) := by omega
      have i1 : (j : Int) < (zl : Int) := by omega
      by_cases hj0 : 0 < j
      · obtain ⟨m, hm⟩ : ∃ m, j - 1 = m := ⟨_, rfl⟩
        obtain ⟨l0, _⟩ := hc.below hnx hb m (by rw [unhide HEZ]; omega)
        have hd2 := (unhide HRI).rise m (by rw [unhide HEZ]; omega)
        rw [show m + 1 = j by omega] at hd2
        have hw : IntKind.i64.wrap ((j : Int) - 1) = (m : Int) := by simp [IntKind.wrap, IntKind.bits, IntKind.signed]; omega
        have i2 : (0 : Int) ≤ (m : Int) := by omega
        have i3 : (m : Int) < (zl : Int) := by omega
        obtain ⟨x, hx⟩ : ∃ x, (tAt Z j).1 = x := ⟨_, rfl⟩
        obtain ⟨y, hy⟩ : ∃ y, (tAt Z m).1 = y := ⟨_, rfl⟩
        rw [hx] at k0 hd1 hd2
        rw [hy] at l0 hd2
        have c1 : decide (q < x) = false := decide_eq_false (by omega)
        have c2 : decide ((0 : Int) < (j : Int)) = true := decide_eq_true (by omega)
        have c3 : decide (x < y) = false := decide_eq_false (by omega)
        have HX := hide hnx
        clear hnx hx hy hd1 hd2 hm hc hb
        go_wp2_with fail
        go_quiet (fail)
        go_wp2_with fail
        go_roundw
        case rel => exact ⟨j + 1, by omega, by go_num, below_drewN (unhide HX) _⟩
        case measure => simp [intOf]; omega
      · obtain ⟨x, hx⟩ : ∃ x, (tAt Z j).1 = x := ⟨_, rfl⟩
        rw [hx] at k0 hd1
        have c1 : decide (q < x) = false := decide_eq_false (by omega)
        have c2 : decide ((0 : Int) < (j : Int)) = false := decide_eq_false (by omega)
        have HX := hide hnx
        clear hnx hx hd1 hc hb
        go_wp2_with fail
        go_quiet (fail)
        go_wp2_with fail
        go_roundw
        case rel => exact ⟨j + 1, by omega, by go_num, below_drewN (unhide HX) _⟩
        case measure => simp [intOf]; omega
    · have HX := hide hnx
      clear hnx
      go_wp2_with fail
      go_loopw [19] (fun i wr => ∃ j : Nat, j ≤ pl ∧ i = .int .i64 j ∧ Below wd.heap.size wd wr) (fun i _ => pl - (intOf i).toNat)
      case atStart => exact ⟨0, Nat.zero_le _, rfl, unhide HX⟩
      case round =>
        clear HX
        obtain ⟨i, hi, rfl, hnx⟩ := hrel
        by_cases hlt2 : i < pl
        · obtain ⟨b, off, rfl, hb, hc⟩ := unhide HAP (by omega)
          obtain ⟨k0, _⟩ := hc.below hnx hb i (by rw [unhide HEP]; exact hlt2)
          have hd1 := (unhide HNO) i (by rw [unhide HEP]; exact hlt2)
          have i0 : (0 : Int) ≤ (i : Int) := by omega
          have i1 : (i : Int) < (pl : Int) := by omega
          obtain ⟨x, hx⟩ : ∃ x, (tAt P i).1 = x := ⟨_, rfl⟩
          rw [hx] at k0 hd1
          have c1 : decide (x ≤ q) = false := decide_eq_false (by omega)
          have c4 : ¬ x ≤ q := by omega
          have HX := hide hnx
          clear hnx hx hd1 hc hb
          go_wp2_with fail
          go_roundw
          case rel => exact ⟨i + 1, by omega, by go_num, unhide HX⟩
          case measure => simp [intOf]; omega
        · have HX := hide hnx
          clear hnx
          go_wp2_with (first
            | (go_at_call 9; refine (unhide HOZ _ _ (IsTs.below (unhide HZD) (unhide HX))).mono ?_; rintro e we ⟨ae, ce, rfl, hoe, hbe⟩; have HOE := hide hoe; have HE := hide hbe; clear hoe hbe)
            | (at_builtin; refine wpList_append_ts rfl (.tmp 130) (.tmp 131) rfl wr.heap.size (.slice ae zl ce) Z rfl (unhide HOE) _ P rfl (IsTs.below (IsTs.below (unhide HPD) (unhide HX)) (unhide HE)) n (by rw [unhide HEZ, unhide HEP]; exact hzpn) (by omega) (unhide HE).size ?_; intro af cf wf hof hgf; have HIF := hide hof.ts; have HF := hide ((unhide HE).grown hgf (unhide HE).size (fun k hk => ((unhide HOE).lt k hk).1)); clear hof hgf)
            | (go_at_call 22; refine (unhide HCT _ _ _ (unhide HIF) (IsTs.below (unhide HV) (Below.next (Below.next (unhide HXD) (unhide HX) (Nat.le_refl _)) (unhide HF) (Nat.le_refl _)))).mono ?_; rintro e wg ⟨rfl, hbg⟩; have HGG := hide (Below.next (Below.next (Below.next (unhide HXD) (unhide HX) (Nat.le_refl _)) (unhide HF) (Nat.le_refl _)) hbg (Nat.le_refl _)); clear hbg))
          go_ret
          exact ⟨rfl, unhide HGG⟩

theorem times_walk (w : World) (v : Value) (ts : List Tm) (p q : Int) (h : IsTs w v ts) (hm : ts.length ≤ maxLen) :
    Calls Try.prog 7 #[v, .int .i64 p, .int .i64 q] w fun e w' => e = .returned (.bool true) ∧ Below w.heap.size w w' := by
  obtain ⟨a, c, rfl⟩ := Rd.form h
  by_cases hl : 200 < ts.length
  · exact times_long w a _ c p q hl hm
  · have hn : ts.length ≤ 200 := by omega
    by_cases hpq : q < p
    · exact times_after w a _ c p q hn hpq
    · by_cases h1 : (madeF ts).1 = 0
      · exact times_ok w a _ c p q ts rfl h hn hpq (madeF_zero h1)
      · exact times_wrong w a _ c p q ts rfl h hn hpq _ _ rfl h1
end Go.Proofs.Ytcfjpjojckngeaa
