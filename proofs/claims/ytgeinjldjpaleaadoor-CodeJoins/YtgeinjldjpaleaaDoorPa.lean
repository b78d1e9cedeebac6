/-
  code.Parse, of a text that is not too long.
-/
import Derived.Test.YtgeinjldjpaleaaDoorNd
namespace Go.Proofs.YtgeinjldjpaleaaDoor
open Go.RowKit

/-- What a text is cut to at its first line feed: the line, the rest, whether there is one. -/
def lnOf (t : List UInt8) : ByteArray := ⟨(Lib.cut t [10]).1.toArray⟩
def rsOf (t : List UInt8) : List UInt8 := (Lib.cut t [10]).2.1
def enOf (t : List UInt8) : Bool := (Lib.cut t [10]).2.2
/-- What a text tells, line by line. -/
def parseL : Nat → List UInt8 → List In → Nat → List In × (Int × Int)
  | 0, _, acc, _ => (acc, (0, 0))
  | n + 1, t, acc, j => if t = [] then (acc, (0, 0)) else if (enOf t && lineOk (lnOf t)) = true then parseL n (rsOf t) (acc ++ [lineI (lnOf t)]) (j + 1) else ([], (1, j))
theorem index_in : ∀ t : List UInt8, 0 ≤ Lib.index t [10] → (Lib.index t [10]).toNat < t.length
  | [], h => by simp [Lib.index] at h
  | b :: l, h => by
    unfold Lib.index at h ⊢
    split
    · simp
    · next h1 =>
      rw [if_neg h1] at h
      split
      · next h2 => rw [if_pos h2] at h; omega
      · next h2 =>
        rw [if_neg h2] at h
        have h3 := Lib.index_ge l [10]
        have h4 : Lib.index l [10] ≠ -1 := by simpa using h2
        have := index_in l (by omega)
        rw [List.length_cons]
        omega
theorem cut_small (t : List UInt8) (h : enOf t = true) : (rsOf t).length < t.length ∧ (lnOf t).size ≤ t.length := by
  unfold enOf at h
  unfold rsOf lnOf
  unfold Lib.cut at h ⊢
  split at h
  · next hi =>
    rw [if_pos hi]
    have hb : (Lib.index t [10]).toNat + 1 ≤ t.length := by have := index_in t hi; omega
    refine ⟨?_, ?_⟩
    · simp; omega
    · show (List.take _ t).length ≤ _
      rw [List.length_take]; omega
  · cases h
theorem parseL_fuel : ∀ (n m : Nat) (t : List UInt8) (acc : List In) (j : Nat), t.length < n → t.length < m → parseL n t acc j = parseL m t acc j
  | 0, _, _, _, _, h, _ => absurd h (Nat.not_lt_zero _)
  | _ + 1, 0, _, _, _, _, h => absurd h (Nat.not_lt_zero _)
  | n + 1, m + 1, t, acc, j, h1, h2 => by
    unfold parseL
    by_cases h0 : t = []
    · rw [if_pos h0, if_pos h0]
    · rw [if_neg h0, if_neg h0]
      by_cases hk : (enOf t && lineOk (lnOf t)) = true
      · rw [if_pos hk, if_pos hk]
        have he : enOf t = true := by
          cases hq : enOf t
          · rw [hq] at hk; cases hk
          · rfl
        have := (cut_small t he).1
        exact parseL_fuel n m _ _ _ (by omega) (by omega)
      · rw [if_neg hk, if_neg hk]
theorem line_small (t : List UInt8) : (lnOf t).size ≤ t.length := by
  unfold lnOf Lib.cut
  split
  · show (List.take _ t).length ≤ _
    rw [List.length_take]; omega
  · exact Nat.le_refl _
theorem loop_len (bs : ByteArray) : ∀ (n i : Nat) (r : List UInt8), bs.size - i = n → (ByteArray.toList.loop bs i r).length = n + r.length
  | 0, i, r, h => by
    unfold ByteArray.toList.loop
    rw [if_neg (by omega)]
    simp
  | n + 1, i, r, h => by
    unfold ByteArray.toList.loop
    rw [if_pos (by omega), loop_len bs n (i + 1) _ (by omega), List.length_cons]
    omega
theorem toList_len (bs : ByteArray) : bs.toList.length = bs.size := by
  have := loop_len bs bs.size 0 [] (by omega)
  simpa [ByteArray.toList] using this
def strLen : Value → Nat
  | .string s => s.size
  | _ => 0

set_option maxRecDepth 100000 in
set_option maxHeartbeats 1000000 in
theorem parse_ok (w : World) (ht : Tabs w) (hl : Libs w) (s : ByteArray) (hs : s.size ≤ 20000) :
    Calls Tryd.prog 17 #[.string s] w fun e w' => ∃ a c, e = .returned (.tuple #[.slice a (parseL (s.size + 1) s.data.toList [] 0).1.length c, .agg #[.int .i64 (parseL (s.size + 1) s.data.toList [] 0).2.1, .int .i64 (parseL (s.size + 1) s.data.toList [] 0).2.2]]) ∧ IsL KC w' (.slice a (parseL (s.size + 1) s.data.toList [] 0).1.length c) (parseL (s.size + 1) s.data.toList [] 0).1 ∧ Below w.heap.size w w' := by
  obtain ⟨⟨RL, R0, R1⟩, eR⟩ : ∃ R, parseL (s.size + 1) s.data.toList [] 0 = R := ⟨_, rfl⟩
  rw [eR]
  simp only
  have HR := hide eR
  have j1 : ¬ (20000 : Int) < (s.size : Int) := by omega
  obtain ⟨W0, e0, hB, k0⟩ := one_new w (.cells #[.int .i64 0, .int .i64 0] 31)
  have HE := hide e0; have HX := hide hB; have HF0 := hide k0
  have HO := hide (ops_any W0 (ht.below hB))
  have HTT := hide (ht.below hB); have HLL := hide (hl.below hB)
  clear e0 hB k0 ht hl eR
  go_enter Tryd.func17, Tryd.ntmps17
  go_upto_region 1 with fail
  rw [unhide HE]
  clear HE
  go_wp2_with (go_at_call 33; refine (unhide HO).mono ?_; rintro e w1 ⟨M, rfl, hM, hm, b1⟩; have HM1 := hide hm; have HB1 := hide b1; clear hm b1)
  have hM2 : M < w1.heap.size := size_of (unhide HM1)
  have HX1 := hide ((unhide HX).trans ((unhide HB1).mono (unhide HX).size))
  have HT1 := hide ((unhide HTT).below (unhide HB1)); have HL1 := hide ((unhide HLL).below (unhide HB1))
  have HF1 := hide (keep_below (unhide HF0) (unhide HB1))
  have hw2 : w.heap.size < w1.heap.size := size_of (unhide HF1)
  have HOW : Hid (Own KC w1.heap.size (w1.alloc (.cells #[] 38)) (.slice (some ⟨w1.heap.size, 0, none⟩) 0 0) []) := ⟨rfl, Or.inr ⟨w1.heap.size, 0, #[], rfl, Nat.le_refl _, new_block _ _, Nat.le_refl _, Nat.zero_le _, rfl, rfl⟩⟩
  have HBB : Hid (Below w1.heap.size w1 (w1.alloc (.cells #[] 38))) := (Below.refl _ _).alloc (Nat.le_refl _) _
  clear HO HTT HLL HX HF0 HB1
  go_loopw [0, 5, 6] (fun i0 i5 i6 W => ∃ (t : List UInt8) (acc : List In) (a : Option Addr) (c : Nat), i0 = .string ⟨t.toArray⟩ ∧ i5 = .slice a acc.length c ∧ i6 = .int .i64 (acc.length : Int) ∧ acc.length + t.length ≤ 20000 ∧ Hid (Own KC w1.heap.size W (.slice a acc.length c) acc) ∧ Hid (Below w1.heap.size w1 W) ∧ Hid (parseL (t.length + 1) t acc acc.length = (RL, R0, R1))) (fun i0 _ _ _ => strLen i0)
  case atStart => exact ⟨s.data.toList, [], _, _, rfl, rfl, rfl, by simpa using hs, HOW, HBB, HR⟩
  case round =>
    obtain ⟨t, acc, a, c, rfl, rfl, rfl, hlen, HOj, HBj, HRj⟩ := hrel
    clear HOW HBB HR
    have HTj := hide ((unhide HT1).below (unhide HBj)); have HLj := hide ((unhide HL1).below (unhide HBj))
    have HMj := hide (keep_at (unhide HM1) (unhide HBj) hM2)
    have HFj := hide (keep_at (unhide HF1) (unhide HBj) hw2)
    have HXj := hide ((unhide HX1).trans ((unhide HBj).mono (unhide HX1).size))
    obtain ⟨S, eS⟩ : ∃ S : ByteArray, (⟨t.toArray⟩ : ByteArray) = S := ⟨_, rfl⟩
    rw [eS]
    have HS := hide eS
    by_cases ht0 : t = []
    · subst ht0
      obtain rfl : S = ⟨#[]⟩ := eS.symm
      have hR2 : (acc, ((0, 0) : Int × Int)) = (RL, R0, R1) := unhide HRj
      cases hR2
      clear HRj eS
      obtain ⟨p0, p1, f0, f1, pl⟩ := block2 (unhide HFj)
      have hne : (⟨#[]⟩ : ByteArray).toList.isEmpty = true := by
        have h1 := toList_len (⟨#[]⟩ : ByteArray)
        cases hq : (⟨#[]⟩ : ByteArray).toList with
        | nil => rfl
        | cons x l => rw [hq] at h1; cases h1
      go_wp2_with fail
      exact bodyPost_ret (v := .tuple #[.slice a RL.length c, .agg #[.int .i64 0, .int .i64 0]]) (by simp [results, Tryd.results17, go_sem, p0, p1]) rfl ⟨_, _, rfl, ((unhide HOj).set (i := 0) hw2).set (i := 1) hw2 |>.isl, below_set2 (unhide HXj) (Nat.le_refl _) _ _⟩
    · have hne : S.toList.isEmpty = false := by
        have h1 := toList_len S
        have h2 : S.size = t.length := by rw [← eS]; rfl
        have h3 : 0 < t.length := List.length_pos_iff.2 ht0
        cases hq : S.toList with
        | nil => rw [hq] at h1; simp at h1; omega
        | cons x l => rfl
      have hp : parseL (t.length + 1) t acc acc.length = if (enOf t && lineOk (lnOf t)) = true then parseL t.length (rsOf t) (acc ++ [lineI (lnOf t)]) (acc.length + 1) else ([], (1, (acc.length : Int))) := by
        conv => lhs; unfold parseL
        rw [if_neg ht0]
      have hR2 := unhide HRj
      rw [hp] at hR2
      have hS1 : S.size = t.length := by rw [← eS]; rfl
      have hS2 : S.data.toList = t := by rw [← eS]
      obtain ⟨mm, hmm⟩ := (unhide HLj).mx
      have HCT := hide (Tryd.strings_Cut S ⟨#[10]⟩ mm wr (by omega) hmm)
      rw [hS2] at HCT
      have HCT2 : Hid (Calls Tryd.prog 34 #[.string S, .string ⟨#[10]⟩] wr fun e w' => e = .returned (.tuple #[.string (lnOf t), .string ⟨(rsOf t).toArray⟩, .bool (enOf t)]) ∧ Below wr.heap.size wr w') := (unhide HCT).mono fun e w' ⟨h1, n, h2⟩ => ⟨h1, by rw [h2]; exact below_drewN (Below.refl _ _) _⟩
      have hlz := line_small t
      have HRL := hide fun W (hW : Below wr.heap.size wr W) => readLine_any W ((unhide HTj).below hW) ((unhide HLj).below hW) M (keep_below (unhide HMj) hW) (lnOf t) (by omega) (Nat.le_trans (Lib.countB_le _ (by decide) _ _ (Nat.le_refl _)) (by omega))
      have hcs := cut_small t
      obtain ⟨⟨I1, I2, I3⟩, hI⟩ : ∃ x, lineI (lnOf t) = x := ⟨_, rfl⟩
      obtain ⟨OK, hOK⟩ : ∃ x, lineOk (lnOf t) = x := ⟨_, rfl⟩
      obtain ⟨EN, hEN⟩ : ∃ x, enOf t = x := ⟨_, rfl⟩
      obtain ⟨rr, hrr⟩ : ∃ x, rsOf t = x := ⟨_, rfl⟩
      obtain ⟨LN, hLN⟩ : ∃ x, lnOf t = x := ⟨_, rfl⟩
      rw [hI, hOK, hEN, hrr] at hR2
      rw [hI, hOK, hLN] at HRL
      rw [hEN, hrr, hLN] at HCT2
      rw [hEN, hrr] at hcs
      have HR2 := hide hR2
      have HCS := hide hcs
      clear hR2 hp HRj hI hOK hEN hrr hLN HCT hmm mm hcs hlz hS2 eS HS
      go_upto_region 9 with (first
        | (go_at_call 34; refine (unhide HCT2).mono ?_; rintro e w2 ⟨rfl, b2⟩; have HY2 := hide b2; clear b2)
        | (go_at_call 35; refine (unhide HRL _ (unhide HY2)).mono ?_; rintro e w3 ⟨rfl, b3⟩; have HY3 : Hid (Below wr.heap.size wr w3) := Below.next (unhide HY2) b3 (Nat.le_refl _); clear b3))
      obtain ⟨W4, e4, b4, z4⟩ := one_new w3 (.cells #[.int .i64 I1, .int .i64 I2, .int .i64 I3] 38)
      rw [e4]
      have HY4 : Hid (Below wr.heap.size wr W4) := Below.next (unhide HY3) b4 (Nat.le_refl _)
      have HX4 := hide ((unhide HXj).trans ((unhide HY4).mono (unhide HXj).size))
      have HF4 := hide (keep_below (unhide HFj) (unhide HY4))
      have HO4 := hide ((unhide HOj).below (unhide HY4))
      have hbs := (unhide HBj).size
      have HB4 := hide ((unhide HBj).trans ((unhide HY4).mono hbs))
      obtain ⟨⟨k0, k1, k2⟩, -, kl⟩ := block3 z4
      clear e4 b4 z4 HY2 HY3 HRL HCT2
      cases EN
      · cases OK
        all_goals
          have hQ := unhide HR2
          simp at hQ
          obtain ⟨q1, q2, q3⟩ := hQ
          subst q1 q2 q3
          obtain ⟨p0, p1, f0, f1, pl⟩ := block2 (unhide HF4)
          go_wp2_with fail
          exact bodyPost_ret (v := .tuple #[.slice none 0 0, .agg #[.int .i64 1, .int .i64 (acc.length : Int)]]) (by simp [results, Tryd.results17, go_sem, p0, p1]) rfl ⟨_, _, rfl, isl_nil _, below_set2 (unhide HX4) (Nat.le_refl _) _ _⟩
      cases OK
      · have hQ := unhide HR2
        simp at hQ
        obtain ⟨q1, q2, q3⟩ := hQ
        subst q1 q2 q3
        obtain ⟨p0, p1, f0, f1, pl⟩ := block2 (unhide HF4)
        go_wp2_with fail
        exact bodyPost_ret (v := .tuple #[.slice none 0 0, .agg #[.int .i64 1, .int .i64 (acc.length : Int)]]) (by simp [results, Tryd.results17, go_sem, p0, p1]) rfl ⟨_, _, rfl, isl_nil _, below_set2 (unhide HX4) (Nat.le_refl _) _ _⟩
      have hQ : parseL t.length rr (acc ++ [(I1, I2, I3)]) (acc.length + 1) = (RL, R0, R1) := by have := unhide HR2; simpa using this
      have hc1 := (unhide HCS rfl).1
      have HW5 := hide (isl_one kc W4 (I1, I2, I3))
      have HB5 : Hid (Below W4.heap.size W4 (W4.alloc (.cells #[.int .i64 I1, .int .i64 I2, .int .i64 I3] 38))) := (Below.refl _ _).alloc (Nat.le_refl _) _
      have HO5 := hide ((unhide HO4).below (unhide HB5))
      have hs4 := (unhide HB4).size
      go_wp2_with (at_builtin; refine wpList_append kc rfl (.tmp 42) (.tmp 44) rfl w1.heap.size _ acc rfl (unhide HO5) _ [(I1, I2, I3)] rfl (unhide HW5) (acc.length + 1) (by simp) (by show (acc.length + 1) * 24 ≤ _; omega) (by simp; omega) ?_; intro a' c' w6 ho hg; have HO6 := hide ho; have HG6 := hide hg; clear ho hg)
      refine ⟨⟨rr, acc ++ [(I1, I2, I3)], a', c', rfl, by simp, by simp, by simp; omega, ?_, ?_, ?_⟩, ?_⟩
      · have h1 := unhide HO6
        have e : (acc ++ [(I1, I2, I3)]).length = acc.length + 1 := by simp
        rw [e]
        exact h1
      · exact Below.grown ((unhide HB4).alloc hs4 _) (unhide HG6) (by simp; omega) (fun k hk => ((unhide HO5).lt k hk).1)
      · have e : (acc ++ [(I1, I2, I3)]).length = acc.length + 1 := by simp
        rw [e, ← hQ]
        exact parseL_fuel _ _ _ _ _ (by omega) hc1
      · show rr.length < S.size
        rw [hS1]; exact hc1
end Go.Proofs.YtgeinjldjpaleaaDoor
