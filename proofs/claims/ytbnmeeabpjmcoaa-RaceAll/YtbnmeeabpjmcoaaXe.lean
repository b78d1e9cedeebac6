/-
  race.First: the first event that races.
-/
import Derived.Test.YtbnmeeabpjmcoaaXd
import Derived.Test.YtbnmeeabpjmcoaaXv
namespace Go.Proofs.Ytbnmeeabpjmcoaa
open Go.RowKit

set_option maxRecDepth 100000 in
set_option maxHeartbeats 4000000 in
theorem seenAdd_any (w0 w : World) (S B lo' G nn m : Nat) (ks : List Int) (sv : Int → Value) (l : List Ev) (hs : List Int) (k : Nat) (hS : SeenAt w0.heap.size w S B (.slice (some ⟨G, 0, none⟩) nn nn) ks sv l k) (hR : Rows2 lo' w0 G nn (rowL hs l m) m nn) (hb0 : Below w0.heap.size w0 w) (hg : GoodT hs l) (hln : l.length = nn) (hm : lastL l = (m : Int)) (hk : k < nn) (tk op ob vl : Int) (ex : l.getD k ev0 = ⟨tk, op, ob, vl⟩) :
    Calls Try.prog 38 #[.pointer (some ⟨S, 0, none⟩), .int .i64 (k : Int), .agg #[.int .i64 tk, .int .i64 op, .int .i64 ob, .int .i64 vl]] w fun e w' => ∃ a c ks' sv', e = .returned (.slice a (racing hs l k).length c) ∧ Own KI w.heap.size w' (.slice a (racing hs l k).length c) ((racing hs l k).map fun a => ((a.pl : Nat) : Int)) ∧ SeenAt w0.heap.size w' S B (.slice (some ⟨G, 0, none⟩) nn nn) ks' sv' l (k + 1) ∧ Below w0.heap.size w0 w' ∧ KtA w w' := by
  cases ha : isAcc (l.getD k ev0) with
  | false => exact add_no w0 w S B G nn ks sv l hs k hS hb0 tk op ob vl ex ha
  | true => exact add_yes w0 w S B lo' G nn m ks sv l hs k hS hR hb0 hg hln hm hk tk op ob vl ex ha
/-- What First answers of a trace of which nothing is wrong. -/
def FirstIs (hs : List Int) (l : List Ev) (e : Ending) : Prop := match firstR hs l with
  | some k => e = .returned (.tuple #[.int .i64 (k : Int), .agg #[.int .i64 0, .int .i64 0]])
  | none => e = .returned (.tuple #[.int .i64 0, .agg #[.int .i64 6, .int .i64 0]])

set_option maxRecDepth 100000 in
set_option maxHeartbeats 4000000 in
theorem first_fault (w : World) (a0 : Option Addr) (n0 c0 : Nat) (a1 : Option Addr) (n1 c1 : Nat) (l : List Ev) (hs : List Int) (hl : IsL KE w (.slice a0 n0 c0) l) (hh : IsL KI w (.slice a1 n1 c1) hs) (fc fa : Int) (hf : checkF hs l = (fc, fa)) (hfc : fc ≠ 0) :
    Calls Try.prog 24 #[.slice a0 n0 c0, .slice a1 n1 c1] w fun e w' => e = .returned (.tuple #[.int .i64 0, .agg #[.int .i64 fc, .int .i64 fa]]) ∧ Below w.heap.size w w' := by
  have HCF : Hid (∀ W, Below w.heap.size w W → Calls Try.prog 13 #[.slice a0 n0 c0, .slice a1 n1 c1] W fun e w' => e = .returned (.tuple #[.slice none 0 0, .agg #[.int .i64 fc, .int .i64 fa]]) ∧ Below W.heap.size W w') := fun W hW => clocks_faulty W a0 n0 c0 a1 n1 c1 l hs (hl.below hW) (hh.below hW) fc fa hf hfc
  have x1 : (fc == 0) = false := by simpa using hfc
  have x2 : (fc != 0) = true := by simpa using hfc
  have HX := hide ((Below.refl w.heap.size w).alloc (Nat.le_refl _) (.cells #[.int .i64 0, .int .i64 0] 28 (0, 0)))
  have HQ := hide (new_block w (.cells #[.int .i64 0, .int .i64 0] 28 (0, 0)))
  obtain ⟨W0, e0⟩ : ∃ X, w.alloc (.cells #[.int .i64 0, .int .i64 0] 28 (0, 0)) = X := ⟨_, rfl⟩
  rw [e0] at HX HQ
  have HE := hide e0
  clear e0 hl hh hf hfc
  go_enter Try.func24, Try.ntmps24
  go_upto_region 1 with fail
  rw [unhide HE]
  clear HE
  go_upto_region 2 with (go_at_call 13; (with_reducible refine Calls.mono (unhide HCF _ (unhide HX)) ?_); rintro e w1 ⟨rfl, hb1⟩; have HX1 := hide (Below.next (unhide HX) hb1 (Nat.le_refl _)); have HQ1 := hide (keep_below (unhide HQ) hb1); clear hb1)
  have HX2 := hide ((unhide HX1).alloc (unhide HX1).size (.cells #[.int .i64 fc, .int .i64 fa] 28 (0, 0))); have HQ2 := hide (keep_alloc (unhide HQ1) (.cells #[.int .i64 fc, .int .i64 fa] 28 (0, 0))); have HF2 := hide (new_block w1 (.cells #[.int .i64 fc, .int .i64 fa] 28 (0, 0)))
  have hFl : w.heap.size < w1.heap.size := size_of (unhide HQ1)
  obtain ⟨F, eF⟩ : ∃ X, w1.heap.size = X := ⟨_, rfl⟩
  obtain ⟨W2, e2⟩ : ∃ X, w1.alloc (.cells #[.int .i64 fc, .int .i64 fa] 28 (0, 0)) = X := ⟨_, rfl⟩
  rw [eF, e2] at HF2; rw [e2] at HX2 HQ2; rw [eF] at hFl; rw [eF, e2]
  clear eF e2 HX HQ HX1 HQ1 HCF
  obtain ⟨g0, g1, gf0, gf1, gl⟩ := block2 (unhide HF2)
  obtain ⟨q0, q1, f0, f1, ql⟩ := block2 (unhide HQ2)
  go_upto_region 3 with fail
  go_region
  all_goals
    go_wp2_with fail
    exact bodyPost_ret (v := .tuple #[.int .i64 0, .agg #[.int .i64 fc, .int .i64 fa]]) (by simp [results, Try.results24, go_sem, q0, q1]) rfl ⟨rfl, by first | exact (below_set2 (unhide HX2) (Nat.le_refl _) _ _).drew | exact below_set2 (unhide HX2).drew (Nat.le_refl _) _ _⟩

set_option maxRecDepth 100000 in
set_option maxHeartbeats 4000000 in
theorem first_good (w : World) (a0 : Option Addr) (n0 c0 : Nat) (a1 : Option Addr) (n1 c1 : Nat) (l : List Ev) (hs : List Int) (hl : IsL KE w (.slice a0 n0 c0) l) (hh : IsL KI w (.slice a1 n1 c1) hs) (hg : GoodT hs l) :
    Calls Try.prog 24 #[.slice a0 n0 c0, .slice a1 n1 c1] w fun e w' => FirstIs hs l e ∧ Below w.heap.size w w' := by
  have hln := hl.len
  have hn : n0 ≤ 2000 := by have := hg.n; omega
  obtain ⟨m, hm⟩ : ∃ m : Nat, lastL l = (m : Int) := ⟨(lastL l).toNat, by have := (hg.last l.length (Nat.le_refl _)).1; rw [List.take_length] at this; omega⟩
  have HCF : Hid (∀ W, Below w.heap.size w W → Calls Try.prog 13 #[.slice a0 n0 c0, .slice a1 n1 c1] W fun e w' => ∃ G, e = .returned (.tuple #[.slice (some ⟨G, 0, none⟩) n0 n0, .agg #[.int .i64 0, .int .i64 0]]) ∧ Rows2 (W.heap.size + 1) w' G n0 (rowL hs l m) m n0 ∧ W.heap.size + 1 ≤ G ∧ Below W.heap.size W w') := fun W hW => clocks_good W a0 n0 c0 a1 n1 c1 l hs (hl.below hW) (hh.below hW) hg m hm
  have HX := hide ((Below.refl w.heap.size w).alloc (Nat.le_refl _) (.cells #[.int .i64 0, .int .i64 0] 28 (0, 0)))
  have HQ := hide (new_block w (.cells #[.int .i64 0, .int .i64 0] 28 (0, 0)))
  obtain ⟨W0, e0⟩ : ∃ X, w.alloc (.cells #[.int .i64 0, .int .i64 0] 28 (0, 0)) = X := ⟨_, rfl⟩
  rw [e0] at HX HQ
  have HE := hide e0
  have HG := hide hg; have HM := hide hm; have HLN := hide hln
  have HTR := hide (hl.opens ke hln)
  clear e0 hl hh hg hm hln
  go_enter Try.func24, Try.ntmps24
  go_upto_region 1 with fail
  rw [unhide HE]
  clear HE
  go_upto_region 2 with (go_at_call 13; (with_reducible refine Calls.mono (unhide HCF _ (unhide HX)) ?_); rintro e w1 ⟨G, rfl, hr1, hg1, hb1⟩; have HX1 := hide (Below.next (unhide HX) hb1 (Nat.le_refl _)); have HQ1 := hide (keep_below (unhide HQ) hb1); have HR1 := hide hr1; clear hb1 hr1 hg1)
  have HX2 := hide ((unhide HX1).alloc (unhide HX1).size (.cells #[.int .i64 0, .int .i64 0] 28 (0, 0))); have HQ2 := hide (keep_alloc (unhide HQ1) (.cells #[.int .i64 0, .int .i64 0] 28 (0, 0))); have HF2 := hide (new_block w1 (.cells #[.int .i64 0, .int .i64 0] 28 (0, 0))); have HR2 := hide ((unhide HR1).below ((Below.refl _ _).alloc (Nat.le_refl _) (.cells #[.int .i64 0, .int .i64 0] 28 (0, 0))))
  obtain ⟨F, eF⟩ : ∃ X, w1.heap.size = X := ⟨_, rfl⟩
  obtain ⟨W2, e2⟩ : ∃ X, w1.alloc (.cells #[.int .i64 0, .int .i64 0] 28 (0, 0)) = X := ⟨_, rfl⟩
  rw [eF, e2] at HF2; rw [e2] at HX2 HQ2 HR2; rw [eF, e2]
  clear eF e2 HX HQ HX1 HQ1 HCF HR1
  obtain ⟨g0, g1, gf0, gf1, gl⟩ := block2 (unhide HF2)
  go_upto_region 5 with (go_at_call 37; (with_reducible refine Calls.mono (newSeen_any W2 _ n0 n0 l) ?_); rintro e w3 ⟨S, B, rfl, hs3, hl3, hb3⟩; have HS3 := hide hs3; have HB3 := hide hb3; clear hs3 hl3 hb3 g0 g1 gf0 gf1 gl)
  go_wp2_with fail
  go_loopw [25] (fun i wr => ∃ (j : Nat) (ks : List Int) (sv : Int → Value), j ≤ n0 ∧ i = .int .i64 (j : Int) ∧ Hid (SeenAt W2.heap.size wr S B (.slice (some ⟨G, 0, none⟩) n0 n0) ks sv l j) ∧ Hid (∀ x, x < j → racesAt hs l x = false) ∧ Hid (Below W2.heap.size W2 wr)) (fun i _ => n0 - (intOf i).toNat)
  case atStart => exact ⟨0, [], _, Nat.zero_le _, rfl, HS3, hide (fun x hx => absurd hx (Nat.not_lt_zero x)), HB3⟩
  case round =>
    obtain ⟨j, ks, sv, hj, rfl, HSj, HNj, HBj⟩ := hrel
    clear HS3 HB3
    by_cases hlt : j < n0
    · have HLT := hide hlt
      have i0 : (0 : Int) ≤ (j : Int) := by omega
      have i1 : (j : Int) < (n0 : Int) := by omega
      have hw1 : IntKind.i64.wrap ((j : Int) + 1) = (j : Int) + 1 := wrapi (by omega) (by omega)
      have hbw : Below w.heap.size w wr := (unhide HX2).trans ((unhide HBj).mono (unhide HX2).size)
      obtain ⟨tb, tof, rfl, htb, hli⟩ := unhide HTR (by omega)
      obtain ⟨⟨tk, op, ob, vl⟩, ex⟩ : ∃ X, l.getD j ev0 = X := ⟨_, rfl⟩
      obtain ⟨v0, v1, v2, v3⟩ := (hli.below hbw htb).ev (j := j) (by rw [unhide HLN]; exact hlt) ex
      have HEX := hide ex
      have hS4 := (unhide HSj).below ((Below.refl wr.heap.size wr).alloc (Nat.le_refl _) (.cells #[.int .i64 tk, .int .i64 op, .int .i64 ob, .int .i64 vl] 41 (0, 0)))
      have hb4 := (unhide HBj).alloc (unhide HBj).size (.cells #[.int .i64 tk, .int .i64 op, .int .i64 ob, .int .i64 vl] 41 (0, 0))
      have HV4 := hide (new_block wr (.cells #[.int .i64 tk, .int .i64 op, .int .i64 ob, .int .i64 vl] 41 (0, 0)))
      obtain ⟨V, eV⟩ : ∃ X, wr.heap.size = X := ⟨_, rfl⟩
      obtain ⟨W4, e4⟩ : ∃ X, wr.alloc (.cells #[.int .i64 tk, .int .i64 op, .int .i64 ob, .int .i64 vl] 41 (0, 0)) = X := ⟨_, rfl⟩
      rw [e4] at hS4 hb4; rw [eV, e4] at HV4
      have HB4 := hide hb4
      have HADD := hide (seenAdd_any W2 W4 S B _ G n0 m ks sv l hs j hS4 (unhide HR2) hb4 (unhide HG) (unhide HLN) (unhide HM) hlt tk op ob vl ex)
      have HQ4 := hide (keep_below (unhide HQ2) hb4)
      clear hli ex hS4 hb4 hbw
      go_upto_region 8 with fail
      try rw [eV, e4]
      clear eV e4 v0 v1 v2 v3
      obtain ⟨⟨v0, v1, v2, v3⟩, -, vl_⟩ := block4 (unhide HV4)
      obtain ⟨N, hN⟩ : ∃ X, (racing hs l j).length = X := ⟨_, rfl⟩
      have HNN := hide hN
      rw [hN] at HADD
      clear hN
      by_cases hN0 : N = 0
      · have hno : racesAt hs l j = false := by
          unfold racesAt
          have h0 : (racing hs l j).length = 0 := by rw [unhide HNN]; exact hN0
          rw [List.length_eq_zero_iff.1 h0]
          rfl
        have HNO := hide hno
        subst hN0
        clear hno
        go_wp2_with (go_at_call 38; (with_reducible refine Calls.mono (unhide HADD) ?_); rintro e w5 ⟨a5, c5, ks5, sv5, rfl, _, hs5, hb5, _⟩; have HS5 := hide hs5; have HB5 := hide hb5; clear hs5 hb5)
        go_roundw
        case rel => exact ⟨j + 1, ks5, sv5, by omega, by go_num, HS5, hide (fun x hx => by
          by_cases e : x = j
          · rw [e]; exact unhide HNO
          · exact unhide HNj x (by omega)), HB5⟩
        case measure => simp [intOf]; omega
      · have hyes : racesAt hs l j = true := by
          unfold racesAt
          have h0 : (racing hs l j).length ≠ 0 := by rw [unhide HNN]; exact hN0
          cases e : racing hs l j with
          | nil => rw [e] at h0; exact absurd rfl h0
          | cons x y => rfl
        have HFI := hide (firstR_is (show j < l.length by rw [unhide HLN]; exact unhide HLT) hyes (unhide HNj))
        have n1_ : (0 : Int) < (N : Int) := by omega
        clear hyes hN0
        go_upto_region 9 with (go_at_call 38; (with_reducible refine Calls.mono (unhide HADD) ?_); rintro e w5 ⟨a5, c5, ks5, sv5, rfl, _, hs5, hb5, _⟩; have HB5 := hide hb5; have HQ5 := hide (keep_below (unhide HQ2) hb5); clear hs5 hb5)
        obtain ⟨q0, q1, f0, f1, ql⟩ := block2 (unhide HQ5)
        go_wp2_with fail
        exact bodyPost_ret (v := .tuple #[.int .i64 (j : Int), .agg #[.int .i64 0, .int .i64 0]]) (by simp [results, Try.results24, go_sem, q0, q1]) rfl ⟨by unfold FirstIs; rw [unhide HFI], by
          have h0 := (unhide HX2).trans ((unhide HB5).mono (unhide HX2).size)
          first | exact below_set2 h0 (Nat.le_refl _) _ _ | exact (below_set2 h0 (Nat.le_refl _) _ _).drew⟩
    · obtain rfl : j = n0 := by omega
      have i1 : ¬ (j : Int) < (j : Int) := by omega
      have HFI := hide (firstR_no (hs := hs) (l := l) (fun x hx => unhide HNj x (by rw [← unhide HLN]; exact hx)))
      have HQ5 := hide (keep_below (unhide HQ2) (unhide HBj))
      obtain ⟨q0, q1, f0, f1, ql⟩ := block2 (unhide HQ5)
      go_wp2_with fail
      exact bodyPost_ret (v := .tuple #[.int .i64 0, .agg #[.int .i64 6, .int .i64 0]]) (by simp [results, Try.results24, go_sem, q0, q1]) rfl ⟨by unfold FirstIs; rw [unhide HFI], by
          have h0 := (unhide HX2).trans ((unhide HBj).mono (unhide HX2).size)
          first | exact below_set2 h0 (Nat.le_refl _) _ _ | exact (below_set2 h0 (Nat.le_refl _) _ _).drew⟩
end Go.Proofs.Ytbnmeeabpjmcoaa
