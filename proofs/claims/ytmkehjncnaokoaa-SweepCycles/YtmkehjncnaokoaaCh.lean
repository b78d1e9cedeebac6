/-
  slices.Repeat of one number, at most twenty times.
  One element more at the end of a slice of which the cells are known, as a step of a region that draws.
-/
import Derived.Test.YtmkehjncnaokoaaCf
import Derived.Laws.CopyOwn
import Derived.Deep.RegionLawGrows
namespace Go.Proofs.Ytmkehjncnaokoaa
open Go.RowKit

set_option maxRecDepth 100000 in
set_option maxHeartbeats 4000000 in
theorem mul64_z (w : World) (z : Int) (h0 : 0 ≤ z) (h1 : z ≤ 20) :
    Calls Try.prog 53 #[.int .u64 1, .int .u64 z] w fun e w' => e = .returned (.tuple #[.int .u64 0, .int .u64 z]) ∧ w' = w := by
  have h : z = 0 ∨ z = 1 ∨ z = 2 ∨ z = 3 ∨ z = 4 ∨ z = 5 ∨ z = 6 ∨ z = 7 ∨ z = 8 ∨ z = 9 ∨ z = 10 ∨ z = 11 ∨ z = 12 ∨ z = 13 ∨ z = 14 ∨ z = 15 ∨ z = 16 ∨ z = 17 ∨ z = 18 ∨ z = 19 ∨ z = 20 := by omega
  clear h0 h1
  rcases h with rfl | rfl | rfl | rfl | rfl | rfl | rfl | rfl | rfl | rfl | rfl | rfl | rfl | rfl | rfl | rfl | rfl | rfl | rfl | rfl | rfl
  all_goals (go_enter Try.func53, Try.ntmps53; go_wp2_with fail; exact bodyPost_ret (v := .tuple #[.int .u64 0, .int .u64 _]) (by simp [results, Try.results53]; rfl) rfl ⟨rfl, rfl⟩)

set_option maxRecDepth 100000 in
set_option maxHeartbeats 4000000 in
theorem mul_z (w : World) (z : Int) (h0 : 0 ≤ z) (h1 : z ≤ 20) :
    Calls Try.prog 51 #[.int .u64 1, .int .u64 z] w fun e w' => e = .returned (.tuple #[.int .u64 0, .int .u64 z]) ∧ w' = w := by
  have HM := hide (mul64_z w z h0 h1)
  have hw : IntKind.u64.wrap z = z := by
    have h : z = 0 ∨ z = 1 ∨ z = 2 ∨ z = 3 ∨ z = 4 ∨ z = 5 ∨ z = 6 ∨ z = 7 ∨ z = 8 ∨ z = 9 ∨ z = 10 ∨ z = 11 ∨ z = 12 ∨ z = 13 ∨ z = 14 ∨ z = 15 ∨ z = 16 ∨ z = 17 ∨ z = 18 ∨ z = 19 ∨ z = 20 := by omega
    rcases h with rfl | rfl | rfl | rfl | rfl | rfl | rfl | rfl | rfl | rfl | rfl | rfl | rfl | rfl | rfl | rfl | rfl | rfl | rfl | rfl | rfl <;> rfl
  go_enter Try.func51, Try.ntmps51
  go_wp2_with (go_at_call 53; (with_reducible refine Calls.mono (unhide HM) ?_); rintro e w2 ⟨rfl, rfl⟩)
  exact bodyPost_ret (v := .tuple #[.int .u64 0, .int .u64 z]) (by simp [results, Try.results51]) rfl ⟨rfl, rfl⟩

theorem make_ints (n : Nat) (hn : n ≤ 100) : ∃ A : Array Value, A.toList = List.replicate n (.int .i64 0) ∧ ∀ w : World, (Instr.makeSlice 23 (.int .i64 (n : Int)) (.int .i64 (n : Int))).run Try.prog w = .ok (.slice (some ⟨w.heap.size, 0, none⟩) n n) (w.alloc (.cells A 3)) := by
  have hinf : (Try.prog.info? 3).map (fun i => (i.zero, i.size, i.bytes)) = some (some (.int .i64 0), 1, 8) := by kernel_rfl
  obtain ⟨i0, hi, h0, h1, h2⟩ := info_parts hinf
  refine ⟨madeCells (Value.int .i64 0).cells (n * i0.size), by rw [h1, Nat.mul_one]; exact toList_madeCells_one _ _, fun w => ?_⟩
  have := run_makeSlice (P := Try.prog) w 23 3 i0 (.int .i64 0) Try.underlying23 hi h0 .i64 .i64 (n : Int) (n : Int) (by omega) (by omega) (by rw [h1]; omega) (by rw [h2]; omega) (by omega)
  simpa using this
/-- What is there when so many are laid. -/
def repL (i k : Nat) : List Value := List.replicate i (.int .i64 (-1)) ++ List.replicate (k - i) (.int .i64 0)
theorem repL_len {i k : Nat} (h : i ≤ k) : (repL i k).length = k := by unfold repL; simp; omega
theorem repL_at {i k j : Nat} (h : j < i) : (repL i k)[j]? = some (.int .i64 (-1)) := by
  unfold repL
  rw [List.getElem?_append_left (by simpa using h), List.getElem?_replicate, if_pos h]
theorem repL_more {i m k : Nat} (h : i + m ≤ k) : splice (repL i k) i (List.replicate m (.int .i64 (-1))) = repL (i + m) k := by
  unfold splice repL
  rw [List.take_append_of_le_length (by simp), List.take_of_length_le (by simp), List.length_replicate, List.drop_append, List.drop_of_length_le (by simp), List.nil_append, List.drop_replicate, List.length_replicate, ← List.append_assoc, List.replicate_append_replicate]
  congr 2
  omega

set_option maxRecDepth 100000 in
set_option maxHeartbeats 4000000 in
theorem repeat_any (w : World) (S : Nat) (hS : w.heap[S]? = some (.cells #[.int .i64 (-1)] 3 (0, 0))) (k : Nat) (hk : k ≤ 20) :
    Calls Try.prog 49 #[.slice (some ⟨S, 0, none⟩) 1 1, .int .i64 (k : Int)] w fun e w' => ∃ G, e = .returned (.slice (some ⟨G, 0, none⟩) k k) ∧ w.heap.size ≤ G ∧ w'.heap[G]? = some (.cells (repL k k).toArray 3 (0, 0)) ∧ Below w.heap.size w w' := by
  obtain ⟨A, hA, hmk⟩ := make_ints k (by omega)
  have hA2 : A = (repL 0 k).toArray := by
    rw [← Array.toList_inj, hA]
    unfold repL
    simp
  subst hA2
  have HML := hide (mul_z w (k : Int) (by omega) (by omega))
  have HMK := hide hmk
  have HS := hide hS
  have hw1 : IntKind.u64.wrap (1 : Int) = 1 := rfl
  have hw2 : IntKind.u64.wrap (k : Int) = (k : Int) := by
    have h : (k : Int) = 0 ∨ (k : Int) = 1 ∨ (k : Int) = 2 ∨ (k : Int) = 3 ∨ (k : Int) = 4 ∨ (k : Int) = 5 ∨ (k : Int) = 6 ∨ (k : Int) = 7 ∨ (k : Int) = 8 ∨ (k : Int) = 9 ∨ (k : Int) = 10 ∨ (k : Int) = 11 ∨ (k : Int) = 12 ∨ (k : Int) = 13 ∨ (k : Int) = 14 ∨ (k : Int) = 15 ∨ (k : Int) = 16 ∨ (k : Int) = 17 ∨ (k : Int) = 18 ∨ (k : Int) = 19 ∨ (k : Int) = 20 := by omega
    rcases h with h | h | h | h | h | h | h | h | h | h | h | h | h | h | h | h | h | h | h | h | h <;> rw [h] <;> rfl
  have hw3 : IntKind.i64.wrap (k : Int) = (k : Int) := wrapi (by omega) (by omega)
  have i1 : ¬ (k : Int) < 0 := by omega
  have i2 : ¬ (9223372036854775807 : Int) < (k : Int) := by omega
  clear hA hmk hS
  go_enter Try.func49, Try.ntmps49
  go_upto_region 6 with (go_at_call 51; (with_reducible refine Calls.mono (unhide HML) ?_); rintro e w2 ⟨rfl, rfl⟩)
  have hmk := unhide HMK
  go_upto_region 7 with fail
  have hSs := size_of (unhide HS)
  have HX1 := hide ((Below.refl w2.heap.size w2).alloc (Nat.le_refl _) (.cells (repL 0 k).toArray 3))
  have HG1 := hide (new_block w2 (.cells (repL 0 k).toArray 3))
  have HS1 := hide (keep_alloc (unhide HS) (.cells (repL 0 k).toArray 3))
  have HGB : Hid (w2.heap.size ≤ w2.heap.size) := Nat.le_refl _
  obtain ⟨G, eG⟩ : ∃ X, w2.heap.size = X := ⟨_, rfl⟩
  obtain ⟨W1, e1⟩ : ∃ X, w2.alloc (.cells (repL 0 k).toArray 3) = X := ⟨_, rfl⟩
  rw [e1] at HX1 HS1
  rw [eG, e1] at HG1
  have HGL : Hid (w2.heap.size ≤ G) := by rw [eG]; exact Nat.le_refl _
  rw [eG, e1]
  clear eG e1 HS HML HMK hmk hw1 hw2 hw3 HGB
  obtain ⟨m, hm⟩ : ∃ m, Nat.min 1 k = m := ⟨_, rfl⟩
  have hm1 : m ≤ 1 ∧ m ≤ k ∧ (m = 0 → k = 0) := by rw [← hm]; simp only [Nat.min_def]; split <;> omega
  have hcl : (List.replicate m (Value.int .i64 (-1))).length = m := List.length_replicate
  have HCN : Hid ((List.replicate m (Value.int .i64 (-1))).length = Nat.min 1 k) := by rw [hcl, hm]; exact hide rfl
  have HSR : Hid (∀ j v, (List.replicate m (Value.int .i64 (-1)))[j]? = some v → W1.cell? ((⟨S, 0, none⟩ : Addr).add j) = some v) := fun j v hj => by
    have hjm : j < m := by have := (List.getElem?_eq_some_iff.1 hj).1; rwa [hcl] at this
    have hj0 : j = 0 := by omega
    subst hj0
    rw [List.getElem?_replicate, if_pos hjm] at hj
    rw [← Option.some.inj hj]
    exact (block1 (unhide HS1)).1
  have HFT : Hid (0 + (List.replicate m (Value.int .i64 (-1))).length ≤ (repL 0 k).length) := by rw [hcl, repL_len (by omega)]; show 0 + m ≤ k; omega
  have HON : Hid (∀ v ∈ List.replicate m (Value.int .i64 (-1)), v.oneCell' = true) := fun v hv => by rw [(List.mem_replicate.1 hv).2]; rfl
  have HMO : Hid (splice (repL 0 k) 0 (List.replicate m (.int .i64 (-1))) = repL (0 + m) k) := repL_more (by omega)
  have hsz3 : (Try.prog.info? 3).map (·.size) = some 1 := by
    obtain ⟨i0, hi, _, h1, _⟩ := info_parts Try.info3
    rw [hi]; show some i0.size = _; rw [h1]
  clear hcl hm
  go_wp2_with (refine wpList_copy_splice rfl (.tmp 31) (.tmp 32) 23 23 rfl 3 Try.underlying23 hsz3 (some ⟨G, 0, none⟩) (some ⟨S, 0, none⟩) k k 1 1 rfl rfl G 0 (repL 0 k) 3 (unhide HG1) (List.replicate m (.int .i64 (-1))) (unhide HCN) (fun _ => ⟨rfl, _, rfl, unhide HSR⟩) (unhide HFT) (unhide HON) w2.heap.size w2 (unhide HX1) (unhide HGL) ?_; intro w3 hg3 hb3; rw [unhide HMO, Nat.zero_add] at hg3; have HG3 := hg3; have HX3 := hide hb3; clear hg3 hb3)
  clear HG1 HS1 HX1 HCN HSR HFT HON HMO
  go_loopw [8] (fun s8 wr => ∃ i : Nat, i ≤ k ∧ (i = 0 → k = 0) ∧ s8 = .int .i64 (i : Int) ∧ Hid (wr.heap[G]? = some (.cells (repL i k).toArray 3 (0, 0))) ∧ Hid (Below w2.heap.size w2 wr)) (fun s8 _ => k - (intOf s8).toNat)
  case atStart => exact ⟨m, hm1.2.1, hm1.2.2, rfl, HG3, HX3⟩
  case round =>
    obtain ⟨i, hi, hi0, rfl, HG, HX⟩ := hrel
    clear HG3 HX3
    by_cases hin : i < k
    · have i7 : (i : Int) < (k : Int) := by omega
      have hip : 0 < i := by omega
      have i8 : (0 : Int) ≤ (i : Int) := by omega
      have i9 : (i : Int) ≤ (k : Int) := by omega
      have hki : ¬ k = i := by omega
      obtain ⟨q, hq⟩ : ∃ q, Nat.min i (k - i) = q := ⟨_, rfl⟩
      have hq1 : q ≤ i ∧ i + q ≤ k ∧ 0 < q := by rw [← hq]; simp only [Nat.min_def]; split <;> omega
      have hcl : (List.replicate q (Value.int .i64 (-1))).length = q := List.length_replicate
      have HCN : Hid ((List.replicate q (Value.int .i64 (-1))).length = Nat.min i (k - i)) := by rw [hcl, hq]; exact hide rfl
      have HXD : Hid (Below w2.heap.size w2 wr.drew) := (unhide HX).drew
      have HGD : Hid (wr.drew.heap[G]? = some (.cells (repL i k).toArray 3 (0, 0))) := unhide HG
      have HSR : Hid (∀ j v, (List.replicate q (Value.int .i64 (-1)))[j]? = some v → wr.drew.cell? ((⟨G, 0, none⟩ : Addr).add j) = some v) := fun j v hj => by
        have hjm : j < q := by have := (List.getElem?_eq_some_iff.1 hj).1; rwa [hcl] at this
        rw [List.getElem?_replicate, if_pos hjm] at hj
        rw [← Option.some.inj hj]
        rw [Addr.add_lit]
        simp only [World.cell?, unhide HGD, Nat.zero_add]
        simpa using repL_at (i := i) (k := k) (j := j) (by omega)
      have HFT : Hid (i + (List.replicate q (Value.int .i64 (-1))).length ≤ (repL i k).length) := by rw [hcl, repL_len (by omega)]; exact hq1.2.1
      have HON : Hid (∀ v ∈ List.replicate q (Value.int .i64 (-1)), v.oneCell' = true) := fun v hv => by rw [(List.mem_replicate.1 hv).2]; rfl
      have HMO : Hid (splice (repL i k) i (List.replicate q (.int .i64 (-1))) = repL (i + q) k) := repL_more (by omega)
      have hw1 : IntKind.i64.wrap ((i : Int) + (q : Int)) = (i : Int) + (q : Int) := wrapi (by omega) (by omega)
      clear hcl hq
      go_upto_region 9 with fail
      go_region_law (refine step_copy_splice rfl _ _ 23 23 rfl 3 Try.underlying23 hsz3 (some ⟨G, i, none⟩) (some ⟨G, 0, none⟩) (k - i) (k - i) i k (by simp [Act.eval, Act.put]) (by simp [Act.eval, Act.put]) G i (repL i k) 3 (unhide HGD) (List.replicate q (.int .i64 (-1))) (unhide HCN) (fun _ => ⟨rfl, _, rfl, unhide HSR⟩) (unhide HFT) (unhide HON) w2.heap.size w2 (unhide HXD) (unhide HGL) ?_; intro w4 hg4 hb4; rw [unhide HMO] at hg4; have HG4 := hg4; have HX4 := hide hb4; clear hg4 hb4)
      simp [Act.put]
      go_wp2_with fail
      go_roundw
      case rel => exact ⟨i + q, by omega, by omega, by go_num, HG4, HX4⟩
      case measure => simp [intOf]; omega
    · obtain rfl : i = k := by omega
      have i7 : ¬ (i : Int) < (i : Int) := by omega
      go_wp2_with fail
      go_ret
      exact ⟨G, rfl, unhide HGL, unhide HG, unhide HX⟩


theorem val_run {s : Sem Value} {w w' : World} {v : Value} (h : s.run Try.prog w = .ok v w') : (do pure (Next.value (← s)) : Sem Next).run Try.prog w = .ok (.value v) w' := by simp [h]
theorem step_run {ops : Array Oper} {o : Oper} {a : Act} {w w' : World} {v : Value} {Kn : Act → World → Prop} {Q : Exit → Act → World → Prop} {E : Prop} (hw : Region.wanted o (yielded ops a.tmps) = true) (h : (execOp a.eval o).run Try.prog w = .ok (.value v) w') (hK : Kn (a.put o.dst v) w') : if Region.wanted o (yielded ops a.tmps) = true then Oper.wp Try.prog o a w Kn Q else E := by
  rw [if_pos hw]
  unfold Oper.wp
  rw [h]
  exact hK
/-- What one element more leaves. -/
structure PushR (w w' : World) (g n g' cap' : Nat) (vs : List Value) : Prop where
  cells : ∀ j u, vs[j]? = some u → w'.cell? ⟨g', j, none⟩ = some u
  th : w'.there g' 0 cap'
  le : n + 1 ≤ cap'
  lt : g' < w'.heap.size
  src : g' = g ∨ w.heap.size ≤ g'
  keep : ∀ k, k < w.heap.size → k ≠ g → w'.heap[k]? = w.heap[k]?
  below : ∀ lo, lo ≤ g → lo ≤ w.heap.size → Below lo w w'
theorem step_push {ops : Array Oper} {o : Oper} {a : Act} {w : World} {Kn : Act → World → Prop} {Q : Exit → Act → World → Prop} {E : Prop} (hgd : o.guard = none) (s x : Operand) (t e : TypeId) (z : Value) (bytes : Nat)
    (hop : o.op = Op.call { callee := Callee.builtin Builtin.append, args := #[s, x], argTypes := #[t, t] }) (h1 : Try.prog.underlying t = some (.slice e)) (hinf : (Try.prog.info? e).map (fun i => (i.zero, i.size, i.bytes)) = some (some z, 1, bytes)) (hz : z.cells.size = 1)
    (g n cap : Nat) (olds : List Value) (hs : a.eval s = .slice (some ⟨g, 0, none⟩) n cap) (hlo : olds.length = n) (holds : ∀ j u, olds[j]? = some u → w.cell? ⟨g, j, none⟩ = some u) (hth : w.there g 0 cap) (hle : n ≤ cap) (hlt : g < w.heap.size)
    (S : Nat) (y : Value) (hx : a.eval x = .slice (some ⟨S, 0, none⟩) 1 1) (hS : w.cell? ⟨S, 0, none⟩ = some y) (hy : y.oneCell' = true) (hb : n + 1 ≤ 1000000) (hby : bytes ≤ 1000)
    (hK : ∀ g' cap' w', PushR w w' g n g' cap' (olds ++ [y]) → Kn (a.put o.dst (.slice (some ⟨g', 0, none⟩) (n + 1) cap')) w') :
    if Region.wanted o (yielded ops a.tmps) = true then Oper.wp Try.prog o a w Kn Q else E := by
  obtain ⟨i0, hi, h0, h2, h3⟩ := info_parts hinf
  have hnews : ∀ j u, [y][j]? = some u → w.cell? ((⟨S, 0, none⟩ : Addr).add j) = some u := fun j u hu => by
    have hj : j = 0 := by have := (List.getElem?_eq_some_iff.1 hu).1; simpa using this
    subst hj
    simp at hu
    subst hu
    exact hS
  have h1c : ∀ u ∈ [y], u.oneCell' = true := fun u hu => by rw [List.mem_singleton.1 hu]; exact hy
  by_cases hr : n + 1 ≤ cap
  · refine step_append_room hgd s x t hop e i0 1 h1 hi h2 g 0 n cap hs ⟨S, 0, none⟩ 1 1 [y] hx rfl hnews h1c hr (fun j hj => ?_) ?_
    · have hj0 : j = 0 := by simpa using hj
      subst hj0
      have := hth n (by omega)
      rwa [Nat.mul_one, Nat.add_zero]
    · have hset : w.setCells g (0 + n * 1) [y] = w.setCell ⟨g, n, none⟩ y := by rw [Nat.mul_one, Nat.zero_add]; rfl
      rw [hset]
      refine hK g cap _ ⟨fun j u hu => ?_, there_set hth _, hr, by rw [size_set]; exact hlt, Or.inl rfl, fun k _ hk => Below.heap_setCell _ _ _ _ hk, fun lo hl _ => (Below.refl lo w).setCell (p := ⟨g, n, none⟩) hl _⟩
      by_cases e1 : j = n
      · subst e1
        rw [List.getElem?_append_right (by omega), hlo, Nat.sub_self] at hu
        have : y = u := by simpa using hu
        subst this
        have := cell_same (b := g) (o := 0) hth (m := j) (by omega) y
        rwa [Nat.zero_add] at this
      · have hj2 : j < n := by have := (List.getElem?_eq_some_iff.1 hu).1; rw [List.length_append, hlo] at this; simp at this; omega
        rw [List.getElem?_append_left (by omega)] at hu
        exact cell_other (holds j u hu) (Or.inr (by omega)) _
  · have hbig : n + 1 ≤ maxLen := by unfold maxLen; omega
    refine step_append_grows hgd s x t hop e i0 z 1 bytes h1 hi h0 h2 h3 hz (by decide) (some ⟨g, 0, none⟩) n cap olds hs (fun q => by cases q) (by omega) (fun b hb2 j u hu => ?_) ⟨S, 0, none⟩ 1 1 [y] hx rfl hnews h1c (by omega) hbig ?_ (fun v' w' r1 r2 => ?_)
    · cases hb2
      rw [Addr.add_lit, Nat.zero_add]
      exact holds j u hu
    · have : (n + 1) * bytes ≤ 1000000 * 1000 := Nat.mul_le_mul hb hby
      omega
    · rcases r1 with ⟨hl, ⟨_, q⟩ | ⟨g', cap', cur, rfl, hg, hh, q2, _, q4, q5⟩⟩
      · omega
      · have hb' := (Below.refl w.heap.size w).grown r2 (Nat.le_refl _) (fun k hk => by cases hk)
        refine hK g' cap' w' ⟨fun j u hu => ?_, there_block hh (by omega), q2, size_of hh, Or.inr hg, fun k hk _ => hb'.block k hk, fun lo _ hl2 => hb'.mono hl2⟩
        have hj : j < n + 1 := by have := (List.getElem?_eq_some_iff.1 hu).1; rw [List.length_append, hlo] at this; simpa using this
        have h6 : (cur.toList.take ((n + 1) * 1))[j]? = (olds ++ [y])[j]? := by rw [q5]
        rw [List.getElem?_take, if_pos (by omega), hu] at h6
        simp only [World.cell?, hh]
        rw [← Array.getElem?_toList]
        exact h6
end Go.Proofs.Ytmkehjncnaokoaa
