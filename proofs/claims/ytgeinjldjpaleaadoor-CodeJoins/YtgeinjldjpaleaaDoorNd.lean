/-
  code.readLine.
-/
import Derived.Test.YtgeinjldjpaleaaDoorNc
import Derived.Lib.SplitLaws
namespace Go.Proofs.YtgeinjldjpaleaaDoor
open Go.RowKit

/-- The words of a line; the op that a word names (0: none); what a line tells, and whether it is written so. -/
def wordsOf (s : ByteArray) : List ByteArray := Lib.splitB ⟨#[32]⟩ 0 (Lib.countB s ⟨#[32]⟩) s
def opIx (s : ByteArray) : Nat := match (List.range 22).find? (fun i => decide (nm (i + 1) = s)) with | some i => i + 1 | none => 0
theorem opIx_some {s : ByteArray} (h : opIx s ≠ 0) : ∃ i, i < 22 ∧ opIx s = i + 1 ∧ nm (i + 1) = s := by
  unfold opIx at h ⊢
  cases hf : (List.range 22).find? (fun i => decide (nm (i + 1) = s)) with
  | none => rw [hf] at h; exact absurd rfl h
  | some i =>
    have h1 := List.find?_some hf
    have h2 := List.mem_of_find?_eq_some hf
    exact ⟨i, List.mem_range.1 h2, rfl, of_decide_eq_true h1⟩
theorem opIx_none {s : ByteArray} (h : opIx s = 0) : ∀ i, i < 22 → nm (i + 1) ≠ s := by
  unfold opIx at h
  cases hf : (List.range 22).find? (fun i => decide (nm (i + 1) = s)) with
  | none =>
    intro i hi e
    have := List.find?_eq_none.1 hf i (List.mem_range.2 hi)
    exact this (decide_eq_true e)
  | some i => rw [hf] at h; cases h
def lineRest (s : ByteArray) : List ByteArray := wordR (ka (opIx ((wordsOf s).getD 0 ⟨#[]⟩))).toNat ((wordsOf s).drop 1)
def lineI (s : ByteArray) : In := if opIx ((wordsOf s).getD 0 ⟨#[]⟩) = 0 then (0, 0, 0) else ((opIx ((wordsOf s).getD 0 ⟨#[]⟩) : Int), wordN (ka (opIx ((wordsOf s).getD 0 ⟨#[]⟩))).toNat ((wordsOf s).drop 1), wordN (kb (opIx ((wordsOf s).getD 0 ⟨#[]⟩))).toNat (lineRest s))
def lineOk (s : ByteArray) : Bool := if opIx ((wordsOf s).getD 0 ⟨#[]⟩) = 0 then false else (wordB (ka (opIx ((wordsOf s).getD 0 ⟨#[]⟩))).toNat ((wordsOf s).drop 1) && wordB (kb (opIx ((wordsOf s).getD 0 ⟨#[]⟩))).toNat (lineRest s) && ((wordR (kb (opIx ((wordsOf s).getD 0 ⟨#[]⟩))).toNat (lineRest s)).length == 0))

theorem words_len (s : ByteArray) : (wordsOf s).length = Lib.countB s ⟨#[32]⟩ + 1 := Lib.splitB_all _ (by decide) _ _ _ rfl
theorem splitB_size (sep : ByteArray) (k : Nat) : ∀ (n : Nat) (s : ByteArray), ∀ x ∈ Lib.splitB sep k n s, x.size ≤ s.size
  | 0, s, x, hx => by
    simp [Lib.splitB] at hx
    subst hx
    exact Nat.le_refl _
  | n + 1, s, x, hx => by
    unfold Lib.splitB at hx
    split at hx
    · simp at hx
      subst hx
      exact Nat.le_refl _
    · rcases List.mem_cons.1 hx with rfl | hx
      · rw [ByteArray.size_extract]; omega
      · have := splitB_size sep k n _ x hx
        rw [ByteArray.size_extract] at this
        omega
theorem word_size {s : ByteArray} {ws : List ByteArray} (h : ∀ x ∈ ws, x.size ≤ s.size) : (ws.getD 0 ⟨#[]⟩).size ≤ s.size := by
  cases ws with
  | nil => exact Nat.zero_le _
  | cons x l => exact h x (List.mem_cons_self ..)
theorem words_size (s : ByteArray) : ∀ x ∈ wordsOf s, x.size ≤ s.size := splitB_size _ _ _ s
theorem wordR_mem {k : Nat} {ws : List ByteArray} {x : ByteArray} (h : x ∈ wordR k ws) : x ∈ ws := by
  unfold wordR at h
  split at h
  · exact h
  · exact List.mem_of_mem_drop h
theorem wordR_len (k : Nat) (ws : List ByteArray) : (wordR k ws).length ≤ ws.length := by
  unfold wordR
  split
  · exact Nat.le_refl _
  · rw [List.length_drop]; omega
theorem isl_words (w : World) (ws : List ByteArray) : IsL KS (w.alloc (.cells (ws.map Value.string).toArray 9)) (.slice (some ⟨w.heap.size, 0, none⟩) ws.length ws.length) ws := by
  refine Lies.isl ks (fun j i u hj hu => ?_) rfl (Nat.le_refl _)
  have hh := new_block w (.cells (ws.map Value.string).toArray 9)
  have hi : i = 0 := by
    have := (List.getElem?_eq_some_iff.1 hu).1
    simp [KS] at this
    exact this
  subst hi
  simp only [World.cell?, hh]
  simp [KS] at hu ⊢
  rw [← hu]
  simp [hj]

set_option maxRecDepth 100000 in
set_option maxHeartbeats 1000000 in
theorem readLine_op (w : World) (ht : Tabs w) (hl : Libs w) (M : Nat) (hM : w.heap[M]? = some (.map (nmEnts 22) 22)) (s : ByteArray) (hs : s.size ≤ 30000) (hc : Lib.countB s ⟨#[32]⟩ ≤ 30000) (i : Nat) (hi : i < 22) (hn : nm (i + 1) = (wordsOf s).getD 0 ⟨#[]⟩) :
    Calls Tryd.prog 35 #[.map (some M), .string s] w fun e w' => e = .returned (.tuple #[.agg #[.int .i64 ((i : Int) + 1), .int .i64 (wordN (ka (i + 1)).toNat ((wordsOf s).drop 1)), .int .i64 (wordN (kb (i + 1)).toNat (wordR (ka (i + 1)).toNat ((wordsOf s).drop 1)))], .bool (wordB (ka (i + 1)).toNat ((wordsOf s).drop 1) && wordB (kb (i + 1)).toNat (wordR (ka (i + 1)).toNat ((wordsOf s).drop 1)) && ((wordR (kb (i + 1)).toNat (wordR (ka (i + 1)).toNat ((wordsOf s).drop 1))).length == 0))]) ∧ Below w.heap.size w w' := by
  have hlen := words_len s
  have hsz := words_size s
  obtain ⟨W0, e0, hB, k0⟩ := one_new w (.cells #[.int .i64 0, .int .i64 0, .int .i64 0] 38)
  obtain ⟨mm, hmm⟩ := (hl.below hB).mx
  have HSP := hide (Tryd.strings_Split s ⟨#[32]⟩ mm W0 (by omega) hmm (by decide))
  rw [← hlen] at HSP
  obtain ⟨ws, ews⟩ : ∃ ws, wordsOf s = ws := ⟨_, rfl⟩
  have HSP2 : Hid (Calls Tryd.prog 45 #[.string s, .string ⟨#[32]⟩] W0 fun e w' => e = .returned (.slice (some ⟨W0.heap.size, 0, none⟩) ws.length ws.length) ∧ w' = W0.alloc (.cells (ws.map Value.string).toArray 9)) := by rw [← ews]; exact HSP
  rw [ews] at hn hsz hlen ⊢
  have hW := isl_words W0 ws
  have hB1 : Below W0.heap.size W0 (W0.alloc (.cells (ws.map Value.string).toArray 9)) := (Below.refl _ _).alloc (Nat.le_refl _) _
  obtain ⟨W1, e1⟩ : ∃ X, W0.alloc (.cells (ws.map Value.string).toArray 9) = X := ⟨_, rfl⟩
  rw [e1] at HSP2 hW hB1
  obtain ⟨bW, eb⟩ : ∃ X, W0.heap.size = X := ⟨_, rfl⟩
  have hBw : Below w.heap.size w W1 := hB.trans (hB1.mono hB.size)
  have hlk := look_hit W1 M 22 22 (Nat.le_refl _) (keep_below hM hBw) i hi
  have hpos : 0 < ws.length := by omega
  have h0 : W1.cell? ⟨W0.heap.size, 0, none⟩ = some (.string (nm (i + 1))) := by
    have := (hW.opens ks rfl hpos)
    obtain ⟨b', o', e', -, l'⟩ := this
    cases e'
    have := l'.word hpos
    rw [← hn] at this
    exact this
  have HF0 := hide (keep_below k0 hB1)
  obtain ⟨ra, rb⟩ := ka_range (i + 1) (by omega)
  obtain ⟨rc, rd⟩ := kb_range (i + 1) (by omega)
  obtain ⟨A, eA⟩ : ∃ A : Nat, ka (i + 1) = A := ⟨(ka (i + 1)).toNat, by omega⟩
  obtain ⟨B, eB⟩ : ∃ B : Nat, kb (i + 1) = B := ⟨(kb (i + 1)).toNat, by omega⟩
  have HRD := hide fun W (hW2 : Below W1.heap.size W1 W) v (hv : IsL KS W v (ws.drop 1)) => readWord_any W ((ht.below hBw).below hW2) ((hl.below hBw).below hW2) v (ws.drop 1) hv A (by omega) (Nat.le_trans (word_size (s := s) (fun x hx => hsz x (List.mem_of_mem_drop hx))) (by omega)) (by rw [List.length_drop]; omega)
  have HRE := hide fun W (hW2 : Below W1.heap.size W1 W) v (hv : IsL KS W v (wordR A (ws.drop 1))) => readWord_any W ((ht.below hBw).below hW2) ((hl.below hBw).below hW2) v (wordR A (ws.drop 1)) hv B (by omega) (Nat.le_trans (word_size (s := s) (fun x hx => hsz x (List.mem_of_mem_drop (wordR_mem hx)))) (by omega)) (by have := wordR_len A (ws.drop 1); rw [List.length_drop] at this; omega)
  have HTB := hide fun W (hW2 : Below W1.heap.size W1 W) => ((ht.below hBw).below hW2).row (i + 1) (by omega)
  rw [eA, eB] at HTB ⊢
  simp only [Int.toNat_natCast]
  have HWS := hide hW; have HX1 := hide hBw; have HE := hide e0
  obtain ⟨us, eus⟩ : ∃ us, ws.drop 1 = us := ⟨_, rfl⟩
  have HUS := hide eus
  rw [eus] at HRD HRE ⊢
  obtain ⟨N1, eN1⟩ : ∃ x, wordN A us = x := ⟨_, rfl⟩
  obtain ⟨B1, eB1⟩ : ∃ x, wordB A us = x := ⟨_, rfl⟩
  obtain ⟨rs, ers⟩ : ∃ x, wordR A us = x := ⟨_, rfl⟩
  rw [eN1, eB1, ers] at HRD; rw [ers] at HRE; rw [eN1, eB1, ers]
  obtain ⟨N2, eN2⟩ : ∃ x, wordN B rs = x := ⟨_, rfl⟩
  obtain ⟨B2, eB2⟩ : ∃ x, wordB B rs = x := ⟨_, rfl⟩
  obtain ⟨rt, ert⟩ : ∃ x, wordR B rs = x := ⟨_, rfl⟩
  rw [eN2, eB2, ert] at HRE; rw [eN2, eB2, ert]
  have hz : ((rt.length : Int) == 0) = (rt.length == 0) := by
    cases hq : rt.length with
    | zero => rfl
    | succ q => simp; omega
  obtain ⟨Z, eZ⟩ : ∃ Z, (rt.length == 0) = Z := ⟨_, rfl⟩
  rw [eZ] at hz ⊢
  have HZZ := hide hz
  clear eus eN1 eB1 ers eN2 eB2 ert eZ hz
  rw [eb] at HSP2 h0 HWS
  have hw0 : (0 : Int) < (ws.length : Int) := by omega
  clear HSP hB e0 k0 ews e1 hM ht hl hB1 hBw hW hmm mm hs hc hlen hsz hn eb ra rb rc rd eA eB
  go_enter Tryd.func35, Tryd.ntmps35
  go_upto_region 1 with fail
  rw [unhide HE]
  clear HE
  go_upto_region 5 with (go_at_call 45; refine (unhide HSP2).mono ?_; rintro e w1 ⟨rfl, rfl⟩)
  have g1 : (0 : Int) ≤ (i : Int) + 1 := by omega
  have g2 : (i : Int) + 1 < 23 := by omega
  have g3 : (1 : Int) ≤ (ws.length : Int) := by omega
  by_cases h1 : ws.length = 1
  · have hd := (unhide HWS).drop_if ks (p := 1) (by omega) rfl
    rw [h1] at hd ⊢
    have HV1 : Hid (IsL KS w1 (.slice (some ⟨bW, 0, none⟩) (1 - 1) (1 - 1)) us) := hide (by rw [← unhide HUS]; simpa using hd)
    have HSS : Hid (∀ W : World, Below w1.heap.size w1 W → W.cell? ⟨2, (i + 1) * 3 + 1, none⟩ = some (.int .i64 (A : Int)) ∧ Below w1.heap.size w1 W) := fun W hW => ⟨(unhide HTB W hW).2.1, hW⟩
    go_region_held3 (fun W => W.cell? ⟨2, (i + 1) * 3 + 1, none⟩ = some (.int .i64 (A : Int)) ∧ Below w1.heap.size w1 W)
      (first | with_reducible exact unhide HSS _ (Below.refl _ _).drew | with_reducible exact unhide HSS _ (unhide HY5))
      (first | (go_at_call 46; refine (unhide HRD _ (Below.refl _ _).drew _ ((unhide HV1).below (Below.refl _ _).drew)).mono ?_; rintro e w5 ⟨a5, c5, rfl, hv5, b5⟩; have HY5 : Hid (Below w1.heap.size w1 w5) := Below.next (Below.refl _ _).drew b5 (Nat.le_refl _); have HV5 := hide hv5; clear hv5 b5))
    all_goals
      obtain ⟨-, -, t2⟩ := unhide HTB _ (unhide HY5)
      go_upto_region 7 with (go_at_call 46; refine (unhide HRE _ (unhide HY5) _ (unhide HV5)).mono ?_; rintro e w6 ⟨a6, c6, rfl, hv6, b6⟩; have HY6 : Hid (Below w1.heap.size w1 w6) := Below.next (unhide HY5) b6 (Nat.le_refl _); clear hv6 b6 t2)
      obtain ⟨p0, p1, p2⟩ := (block3 (keep_below (unhide HF0) (unhide HY6))).1
      obtain ⟨f0, f1, f2⟩ := (block3 (keep_below (unhide HF0) (unhide HY6))).2.1
      have hz := unhide HZZ
      have fin : ∀ Y : Bool, ∀ W : World, Below w1.heap.size w1 w6 → W = ((w6.setCell ⟨w.heap.size, 0, none⟩ (.int .i64 ((i : Int) + 1))).setCell ⟨w.heap.size, 1, none⟩ (.int .i64 N1)).setCell ⟨w.heap.size, 2, none⟩ (.int .i64 N2) → Below w.heap.size w W := fun Y W hb hW => by
        rw [hW]
        exact (((((unhide HX1).trans (hb.mono (unhide HX1).size)).setCell (p := ⟨w.heap.size, 0, none⟩) (Nat.le_refl _) _).setCell (p := ⟨w.heap.size, 1, none⟩) (Nat.le_refl _) _).setCell (p := ⟨w.heap.size, 2, none⟩) (Nat.le_refl _) _)
      have HFin := hide fin
      clear fin
      cases B1
      · cases B2
        · go_wp2_with fail
          exact bodyPost_ret (v := .tuple #[.agg #[.int .i64 ((i : Int) + 1), .int .i64 N1, .int .i64 N2], .bool (false && false && Z)]) (by simp [results, Tryd.results35, go_sem, p0, p1, p2]) rfl ⟨rfl, unhide HFin true _ (unhide HY6) rfl⟩
        · go_wp2_with fail
          exact bodyPost_ret (v := .tuple #[.agg #[.int .i64 ((i : Int) + 1), .int .i64 N1, .int .i64 N2], .bool (false && true && Z)]) (by simp [results, Tryd.results35, go_sem, p0, p1, p2]) rfl ⟨rfl, unhide HFin true _ (unhide HY6) rfl⟩
      · cases B2
        · go_wp2_with fail
          exact bodyPost_ret (v := .tuple #[.agg #[.int .i64 ((i : Int) + 1), .int .i64 N1, .int .i64 N2], .bool (true && false && Z)]) (by simp [results, Tryd.results35, go_sem, p0, p1, p2]) rfl ⟨rfl, unhide HFin true _ (unhide HY6) rfl⟩
        · go_wp2_with fail
          exact bodyPost_ret (v := .tuple #[.agg #[.int .i64 ((i : Int) + 1), .int .i64 N1, .int .i64 N2], .bool (true && true && Z)]) (by simp [results, Tryd.results35, go_sem, p0, p1, p2]) rfl ⟨rfl, unhide HFin true _ (unhide HY6) rfl⟩
  · have hd := (unhide HWS).drop_if ks (p := 1) (by omega) rfl
    have HV1 : Hid (IsL KS w1 (.slice (some ⟨bW, 0 + 1, none⟩) (ws.length - 1) (ws.length - 1)) us) := hide (by rw [← unhide HUS]; simpa [KS, h1] using hd)
    have HSS : Hid (∀ W : World, Below w1.heap.size w1 W → W.cell? ⟨2, (i + 1) * 3 + 1, none⟩ = some (.int .i64 (A : Int)) ∧ Below w1.heap.size w1 W) := fun W hW => ⟨(unhide HTB W hW).2.1, hW⟩
    go_region_held3 (fun W => W.cell? ⟨2, (i + 1) * 3 + 1, none⟩ = some (.int .i64 (A : Int)) ∧ Below w1.heap.size w1 W)
      (first | with_reducible exact unhide HSS _ (Below.refl _ _).drew | with_reducible exact unhide HSS _ (unhide HY5))
      (first | (go_at_call 46; refine (unhide HRD _ (Below.refl _ _).drew _ ((unhide HV1).below (Below.refl _ _).drew)).mono ?_; rintro e w5 ⟨a5, c5, rfl, hv5, b5⟩; have HY5 : Hid (Below w1.heap.size w1 w5) := Below.next (Below.refl _ _).drew b5 (Nat.le_refl _); have HV5 := hide hv5; clear hv5 b5))
    all_goals
      obtain ⟨-, -, t2⟩ := unhide HTB _ (unhide HY5)
      go_upto_region 7 with (go_at_call 46; refine (unhide HRE _ (unhide HY5) _ (unhide HV5)).mono ?_; rintro e w6 ⟨a6, c6, rfl, hv6, b6⟩; have HY6 : Hid (Below w1.heap.size w1 w6) := Below.next (unhide HY5) b6 (Nat.le_refl _); clear hv6 b6 t2)
      obtain ⟨p0, p1, p2⟩ := (block3 (keep_below (unhide HF0) (unhide HY6))).1
      obtain ⟨f0, f1, f2⟩ := (block3 (keep_below (unhide HF0) (unhide HY6))).2.1
      have hz := unhide HZZ
      have fin : ∀ Y : Bool, ∀ W : World, Below w1.heap.size w1 w6 → W = ((w6.setCell ⟨w.heap.size, 0, none⟩ (.int .i64 ((i : Int) + 1))).setCell ⟨w.heap.size, 1, none⟩ (.int .i64 N1)).setCell ⟨w.heap.size, 2, none⟩ (.int .i64 N2) → Below w.heap.size w W := fun Y W hb hW => by
        rw [hW]
        exact (((((unhide HX1).trans (hb.mono (unhide HX1).size)).setCell (p := ⟨w.heap.size, 0, none⟩) (Nat.le_refl _) _).setCell (p := ⟨w.heap.size, 1, none⟩) (Nat.le_refl _) _).setCell (p := ⟨w.heap.size, 2, none⟩) (Nat.le_refl _) _)
      have HFin := hide fin
      clear fin
      cases B1
      · cases B2
        · go_wp2_with fail
          exact bodyPost_ret (v := .tuple #[.agg #[.int .i64 ((i : Int) + 1), .int .i64 N1, .int .i64 N2], .bool (false && false && Z)]) (by simp [results, Tryd.results35, go_sem, p0, p1, p2]) rfl ⟨rfl, unhide HFin true _ (unhide HY6) rfl⟩
        · go_wp2_with fail
          exact bodyPost_ret (v := .tuple #[.agg #[.int .i64 ((i : Int) + 1), .int .i64 N1, .int .i64 N2], .bool (false && true && Z)]) (by simp [results, Tryd.results35, go_sem, p0, p1, p2]) rfl ⟨rfl, unhide HFin true _ (unhide HY6) rfl⟩
      · cases B2
        · go_wp2_with fail
          exact bodyPost_ret (v := .tuple #[.agg #[.int .i64 ((i : Int) + 1), .int .i64 N1, .int .i64 N2], .bool (true && false && Z)]) (by simp [results, Tryd.results35, go_sem, p0, p1, p2]) rfl ⟨rfl, unhide HFin true _ (unhide HY6) rfl⟩
        · go_wp2_with fail
          exact bodyPost_ret (v := .tuple #[.agg #[.int .i64 ((i : Int) + 1), .int .i64 N1, .int .i64 N2], .bool (true && true && Z)]) (by simp [results, Tryd.results35, go_sem, p0, p1, p2]) rfl ⟨rfl, unhide HFin true _ (unhide HY6) rfl⟩
set_option maxRecDepth 100000 in
set_option maxHeartbeats 1000000 in
theorem readLine_none (w : World) (hl : Libs w) (M : Nat) (hM : w.heap[M]? = some (.map (nmEnts 22) 22)) (s : ByteArray) (hs : s.size ≤ 30000) (hn : opIx ((wordsOf s).getD 0 ⟨#[]⟩) = 0) :
    Calls Tryd.prog 35 #[.map (some M), .string s] w fun e w' => e = .returned (.tuple #[.agg #[.int .i64 0, .int .i64 0, .int .i64 0], .bool false]) ∧ Below w.heap.size w w' := by
  have hlen := words_len s
  obtain ⟨W0, e0, hB, k0⟩ := one_new w (.cells #[.int .i64 0, .int .i64 0, .int .i64 0] 38)
  obtain ⟨mm, hmm⟩ := (hl.below hB).mx
  have HSP := hide (Tryd.strings_Split s ⟨#[32]⟩ mm W0 (by omega) hmm (by decide))
  rw [← hlen] at HSP
  obtain ⟨ws, ews⟩ : ∃ ws, wordsOf s = ws := ⟨_, rfl⟩
  have HSP2 : Hid (Calls Tryd.prog 45 #[.string s, .string ⟨#[32]⟩] W0 fun e w' => e = .returned (.slice (some ⟨W0.heap.size, 0, none⟩) ws.length ws.length) ∧ w' = W0.alloc (.cells (ws.map Value.string).toArray 9)) := by rw [← ews]; exact HSP
  rw [ews] at hn hlen
  have hW := isl_words W0 ws
  have hB1 : Below W0.heap.size W0 (W0.alloc (.cells (ws.map Value.string).toArray 9)) := (Below.refl _ _).alloc (Nat.le_refl _) _
  obtain ⟨W1, e1⟩ : ∃ X, W0.alloc (.cells (ws.map Value.string).toArray 9) = X := ⟨_, rfl⟩
  rw [e1] at HSP2 hW hB1
  obtain ⟨bW, eb⟩ : ∃ X, W0.heap.size = X := ⟨_, rfl⟩
  have hBw : Below w.heap.size w W1 := hB.trans (hB1.mono hB.size)
  obtain ⟨x, ex⟩ : ∃ x, ws.getD 0 ⟨#[]⟩ = x := ⟨_, rfl⟩
  rw [ex] at hn
  have hlk := look_miss W1 M 22 22 (keep_below hM hBw) x (opIx_none hn)
  have hpos : 0 < ws.length := by omega
  have h0 : W1.cell? ⟨W0.heap.size, 0, none⟩ = some (.string x) := by
    have := (hW.opens ks rfl hpos)
    obtain ⟨b', o', e', -, l'⟩ := this
    cases e'
    have := l'.word hpos
    rw [ex] at this
    exact this
  have HF0 := hide (keep_below k0 hB1)
  have HX1 := hide hBw; have HE := hide e0
  rw [eb] at HSP2 h0
  have hw0 : (0 : Int) < (ws.length : Int) := by omega
  clear HSP hB e0 k0 ews e1 hM hl hB1 hBw hW hmm mm hs hlen hn eb ex
  go_enter Tryd.func35, Tryd.ntmps35
  go_upto_region 1 with fail
  rw [unhide HE]
  clear HE
  go_upto_region 2 with (go_at_call 45; refine (unhide HSP2).mono ?_; rintro e w1 ⟨rfl, rfl⟩)
  obtain ⟨⟨p0, p1, p2⟩, ⟨f0, f1, f2⟩, pl⟩ := block3 (unhide HF0)
  go_wp2_with fail
  exact bodyPost_ret (v := .tuple #[.agg #[.int .i64 0, .int .i64 0, .int .i64 0], .bool false]) (by simp [results, Tryd.results35, go_sem, p0, p1, p2]) rfl ⟨rfl, ((((unhide HX1).setCell (p := ⟨w.heap.size, 0, none⟩) (Nat.le_refl _) _).setCell (p := ⟨w.heap.size, 1, none⟩) (Nat.le_refl _) _).setCell (p := ⟨w.heap.size, 2, none⟩) (Nat.le_refl _) _)⟩

theorem readLine_any (w : World) (ht : Tabs w) (hl : Libs w) (M : Nat) (hM : w.heap[M]? = some (.map (nmEnts 22) 22)) (s : ByteArray) (hs : s.size ≤ 30000) (hc : Lib.countB s ⟨#[32]⟩ ≤ 30000) :
    Calls Tryd.prog 35 #[.map (some M), .string s] w fun e w' => e = .returned (.tuple #[.agg #[.int .i64 (lineI s).1, .int .i64 (lineI s).2.1, .int .i64 (lineI s).2.2], .bool (lineOk s)]) ∧ Below w.heap.size w w' := by
  unfold lineI lineOk lineRest
  by_cases h : opIx ((wordsOf s).getD 0 ⟨#[]⟩) = 0
  · rw [if_pos h, if_pos h]
    exact readLine_none w hl M hM s hs h
  · rw [if_neg h, if_neg h]
    obtain ⟨i, hi, e1, e2⟩ := opIx_some h
    rw [e1]
    exact readLine_op w ht hl M hM s hs hc i hi e2

end Go.Proofs.YtgeinjldjpaleaaDoor
