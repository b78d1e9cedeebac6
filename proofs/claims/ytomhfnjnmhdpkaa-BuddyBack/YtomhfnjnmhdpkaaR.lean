/-
  buddy.joined.
-/
import Derived.Test.YtomhfnjnmhdpkaaQ
namespace Go.Proofs.Ytomhfnjnmhdpkaa
open Go.RowKit

/-- A block and its mate as one. -/
def bothB (x : Bl) : Bl := (bothS x.1 x.2, 2 * x.2)
/-- A block that is put into a list, as one with its mate as long as that is there: what is left of the list, and the block. -/
def joinN : Nat → List Bl → Bl → List Bl × Bl
  | 0, l, x => (l, x)
  | k + 1, l, x => if hasB (mateB x) l = true then joinN k (noB (mateB x) l) (bothB x) else (l, x)
def joinL (l : List Bl) (x : Bl) : List Bl := insB (joinN (l.length + 1) l x).2 (joinN (l.length + 1) l x).1

theorem fit_of {u t c : Int} (h1 : pw c = true) (h2 : 0 ≤ t) (h3 : t % c = 0) (h4 : t ≤ u - c) : fitB u (t, c) = true := by
  unfold fitB
  simp only [Bool.and_eq_true, decide_eq_true_eq, beq_iff_eq]
  exact ⟨h1, h2, h3, h4⟩
/-- The start of a block that fits, as so many times its size. -/
theorem evn_cases {t c : Int} (_hc : 0 < c) (hm : t % c = 0) : (evn t c = true ∧ t % (2 * c) = 0) ∨ (evn t c = false ∧ (t - c) % (2 * c) = 0) := by
  have e : t = c * (t / c) := by have := Int.mul_ediv_add_emod t c; omega
  obtain ⟨q, hq⟩ : ∃ q, t / c = q := ⟨_, rfl⟩
  unfold evn
  rw [hq] at e ⊢
  have hq2 : q = 2 * (q / 2) + q % 2 := by omega
  rcases (show q % 2 = 0 ∨ q % 2 = 1 by omega) with h | h
  · left
    refine ⟨by rw [h]; rfl, ?_⟩
    have : t = 2 * c * (q / 2) := by
      rw [e, hq2, h, Int.add_zero]
      have : 2 * (q / 2) / 2 = q / 2 := by omega
      rw [this, ← Int.mul_assoc, Int.mul_comm c 2]
    rw [this]
    exact Int.mul_emod_right _ _
  · right
    refine ⟨by rw [h]; rfl, ?_⟩
    have : t - c = 2 * c * (q / 2) := by
      have e2 : c * q = c * (2 * (q / 2)) + c := by
        rw [show c * (2 * (q / 2)) + c = c * (2 * (q / 2) + 1) by rw [Int.mul_add, Int.mul_one]]
        congr 1; omega
      rw [e, e2, ← Int.mul_assoc, Int.mul_comm c 2]
      omega
    rw [this]
    exact Int.mul_emod_right _ _
theorem fit_both {u : Int} {x : Bl} (hu : u ≤ 1073741824) (h : fitB u x = true) (h' : fitB u (mateB x) = true) : fitB u (bothB x) = true ∧ x.2 ≤ 536870912 := by
  obtain ⟨t, c⟩ := x
  obtain ⟨h1, h2, h3, h4⟩ := fit_parts h
  obtain ⟨-, g2, -, g4⟩ := fit_parts h'
  simp only [mateB] at h1 h2 h3 h4 g2 g4
  have hc := pw_pos h1
  have hle := pw_le h1
  unfold mateS at g2 g4
  rcases evn_cases (by omega) h3 with ⟨e, hm⟩ | ⟨e, hm⟩
  · rw [e] at g2 g4
    simp only [if_true] at g2 g4
    have h5 : c ≤ 536870912 := by omega
    refine ⟨?_, h5⟩
    unfold bothB bothS
    simp only [e, if_true]
    exact fit_of (pw_double h1 (by omega)) h2 hm (by omega)
  · rw [e] at g2 g4
    simp only [Bool.false_eq_true, if_false] at g2 g4
    have h5 : c ≤ 536870912 := by omega
    refine ⟨?_, h5⟩
    unfold bothB bothS
    simp only [e, Bool.false_eq_true, if_false]
    exact fit_of (pw_double h1 (by omega)) g2 hm (by omega)
theorem noB_sub (x : Bl) (xs : List Bl) : (noB x xs).Sublist xs := List.filter_sublist
theorem noB_mem {x y : Bl} {xs : List Bl} (h : y ∈ noB x xs) : y ∈ xs := (noB_sub x xs).mem h
theorem noB_rise {x : Bl} {xs : List Bl} (h : Rise xs) : Rise (noB x xs) := List.Pairwise.sublist (noB_sub x xs) h
theorem noB_less {x : Bl} {xs : List Bl} (h : hasB x xs = true) : (noB x xs).length < xs.length := by
  rw [hasB_iff] at h
  unfold noB leftL
  refine Nat.lt_of_le_of_ne (List.length_filter_le _ _) fun e => ?_
  have := (List.length_filter_eq_length_iff.1 e) x h
  simp at this

set_option maxRecDepth 100000 in
set_option maxHeartbeats 4000000 in
theorem joined_any (w : World) (v : Value) (xs : List Bl) (t c u : Int) (h : IsL KB w v xs) (hn : xs.length ≤ 30000) (hr : Rise xs) (hf : ∀ x ∈ xs, fitB u x = true) (hx : fitB u (t, c) = true) (hu : u ≤ 1073741824) :
    Calls Try.prog 36 #[v, .agg #[.int .i64 t, .int .i64 c]] w fun e w' => ∃ a cp, e = .returned (.slice a (joinL xs (t, c)).length cp) ∧ Own KB w.heap.size w' (.slice a (joinL xs (t, c)).length cp) (joinL xs (t, c)) ∧ Below w.heap.size w w' := by
  obtain ⟨a0, c0, rfl⟩ := h.form
  have HL0 := hide h; have HR0 := hide hr; have HF0 := hide hf; have HX0 := hide hx
  obtain ⟨FL, eFL⟩ : ∃ X, (joinN (xs.length + 1) xs (t, c)).1 = X := ⟨_, rfl⟩
  obtain ⟨FX, eFX⟩ : ∃ X, (joinN (xs.length + 1) xs (t, c)).2 = X := ⟨_, rfl⟩
  have HE0 : Hid (joinN (xs.length + 1) xs (t, c) = (FL, FX)) := by rw [← eFL, ← eFX]; exact rfl
  have eJ : joinL xs (t, c) = insB FX FL := by unfold joinL; rw [eFL, eFX]
  rw [eJ]
  obtain ⟨N, eN⟩ : ∃ N, xs.length + 1 = N := ⟨_, rfl⟩
  rw [eN] at HE0
  obtain ⟨n, en⟩ : ∃ n, xs.length = n := ⟨_, rfl⟩
  rw [en] at HL0 hn eN
  have HLN0 := hide en
  have hN : n + 1 ≤ N := Nat.le_of_eq eN
  have HX := hide ((Below.refl w.heap.size w).alloc (Nat.le_refl _) (.cells #[.int .i64 t, .int .i64 c] 38))
  have HP := hide (new_block w (.cells #[.int .i64 t, .int .i64 c] 38))
  have HL1 := hide ((unhide HL0).below ((Below.refl w.heap.size w).alloc (Nat.le_refl _) (.cells #[.int .i64 t, .int .i64 c] 38)))
  have hv : Value.slice a0 xs.length c0 = .slice a0 n c0 := by rw [en]
  rw [hv]
  clear h hr hf hx eFL eFX eJ en eN hv HL0
  obtain ⟨W0, e0⟩ : ∃ W, w.alloc (.cells #[.int .i64 t, .int .i64 c] 38) = W := ⟨_, rfl⟩
  rw [e0] at HX HP HL1
  have HE := hide e0
  clear e0
  go_enter Try.func36, Try.ntmps36
  go_upto_region 1 with fail
  rw [unhide HE]
  clear HE
  go_loopw [0] (fun s0 wr => ∃ (k n cp : Nat) (a : Option Addr) (l : List Bl) (x y : Int), s0 = .slice a n cp ∧ n ≤ 30000 ∧ n + 1 ≤ k ∧ Hid (l.length = n) ∧ Hid (IsL KB wr (.slice a n cp) l) ∧ Hid (Rise l) ∧ Hid (∀ z ∈ l, fitB u z = true) ∧ Hid (fitB u (x, y) = true) ∧ Hid (joinN k l (x, y) = (FL, FX)) ∧ Hid (wr.heap[w.heap.size]? = some (.cells #[.int .i64 x, .int .i64 y] 38 (0, 0))) ∧ Hid (Below w.heap.size w wr)) (fun s _ => lenOf s)
  case atStart => exact ⟨N, n, c0, a0, xs, t, c, rfl, hn, hN, HLN0, HL1, HR0, HF0, HX0, HE0, HP, HX⟩
  case round =>
    clear HLN0 HL1 HR0 HF0 HX0 HE0 HP HX hN hn
    obtain ⟨k, n, cp, a, l, x, y, rfl, hn, hk, HLN, HL, HR, HF, HXF, HE, HP, HX⟩ := hrel
    obtain ⟨f1, f2, f3, f4⟩ := fit_parts (unhide HXF)
    simp only at f1 f2 f3 f4
    have f5 := pw_pos f1
    obtain ⟨M, eM⟩ : ∃ M, mateS x y = M := ⟨_, rfl⟩
    have HM : Hid (∀ W, Calls Try.prog 41 #[.agg #[.int .i64 x, .int .i64 y]] W fun e w' => e = .returned (.agg #[.int .i64 M, .int .i64 y]) ∧ Below W.heap.size W w') := fun W => by
      have := mateOf_any W x y f1 f2 f3 (by omega)
      rw [eM] at this; exact this
    have hmB : mateB (x, y) = (M, y) := by unfold mateB; simp only; rw [eM]
    obtain ⟨R, eR⟩ : ∃ R, hasB (M, y) l = R := ⟨_, rfl⟩
    have HH : Hid (∀ W, Below wr.heap.size wr W → Calls Try.prog 40 #[.slice a n cp, .agg #[.int .i64 M, .int .i64 y]] W fun e w' => e = .returned (.bool R) ∧ Below W.heap.size W w') := fun W hW => by
      have := holds_any W (.slice a n cp) l M y ((unhide HL).below hW) (by rw [unhide HLN]; omega) (unhide HR)
      rw [eR] at this; exact this
    obtain ⟨p0, p1, -, -, pl⟩ := block2 (unhide HP)
    obtain ⟨k, rfl⟩ : ∃ k', k = k' + 1 := ⟨k - 1, by omega⟩
    have hE := unhide HE
    rw [joinN, hmB, eR] at hE
    cases R with
    | true =>
      rw [if_pos rfl] at hE
      have hmem : (M, y) ∈ l := (hasB_iff _ _).1 eR
      obtain ⟨hfb, hy⟩ := fit_both hu (unhide HXF) (by rw [hmB]; exact unhide HF _ hmem)
      have hlt := noB_less eR
      rw [unhide HLN] at hlt
      simp only at hy
      have HNB : Hid (∀ W, Below wr.heap.size wr W → Calls Try.prog 29 #[.slice a n cp, .agg #[.int .i64 M, .int .i64 y]] W fun e w' => ∃ a' c', e = .returned (.slice a' (noB (M, y) l).length c') ∧ Own KB W.heap.size w' (.slice a' (noB (M, y) l).length c') (noB (M, y) l) ∧ Below W.heap.size W w') := fun W hW =>
        without_any W _ l M y ((unhide HL).below hW) (by rw [unhide HLN]; omega)
      have HBO : Hid (∀ W, Calls Try.prog 48 #[.agg #[.int .i64 x, .int .i64 y]] W fun e w' => e = .returned (.agg #[.int .i64 (bothS x y), .int .i64 (2 * y)]) ∧ Below W.heap.size W w') := fun W => both_any W x y f1 f2 f3 (by omega) (by omega)
      have HFB : Hid (fitB u (bothS x y, 2 * y) = true) := hfb
      have HR2 := hide (noB_rise (x := (M, y)) (unhide HR))
      have HF2 := hide (fun z (hz : z ∈ noB (M, y) l) => unhide HF z (noB_mem hz))
      have HE2 : Hid (joinN k (noB (M, y) l) (bothS x y, 2 * y) = (FL, FX)) := hE
      obtain ⟨BS, eBS⟩ : ∃ X, bothS x y = X := ⟨_, rfl⟩
      obtain ⟨Y2, eY2⟩ : ∃ X, 2 * y = X := ⟨_, rfl⟩
      obtain ⟨nl, enl⟩ : ∃ X, noB (M, y) l = X := ⟨_, rfl⟩
      rw [eBS, eY2] at HBO HFB HE2
      rw [enl] at HNB HR2 HF2 HE2 hlt
      obtain ⟨q, eq⟩ : ∃ q, nl.length = q := ⟨_, rfl⟩
      rw [eq] at HNB hlt
      have HQ := hide eq
      clear hE hmem hfb hy eBS eY2 enl eq f1 f2 f3 f4 f5 eM hmB eR HL HR HF HXF HE HLN
      go_wp2_with (first
        | (go_at_call 41; (first
            | (refine (unhide HM wr).mono ?_; rintro e w1 ⟨rfl, hb1⟩; have HB1 := hide hb1; have HP1 := hide (keep_below (unhide HP) hb1); clear hb1)
            | (refine (unhide HM w2).mono ?_; rintro e w3 ⟨rfl, hb3⟩; have HB3 := hide (Below.next (unhide HB2) hb3 (Nat.le_refl _)); have HP3 := hide (keep_below (unhide HP2) hb3); clear hb3)))
        | (go_at_call 40; refine (unhide HH _ (unhide HB1)).mono ?_; rintro e w2 ⟨rfl, hb2⟩; have HB2 := hide (Below.next (unhide HB1) hb2 (Nat.le_refl _)); have HP2 := hide (keep_below (unhide HP1) hb2); clear p0 p1 pl hb2; obtain ⟨p0, p1, -, -, pl⟩ := block2 (unhide HP2))
        | (go_at_call 29; refine (unhide HNB _ (unhide HB3)).mono ?_; rintro e w4 ⟨a4, c4, rfl, ho4, hb4⟩; have HB4 := hide (Below.next (unhide HB3) hb4 (Nat.le_refl _)); have HP4 := hide (keep_below (unhide HP3) hb4); have HO4 := hide ho4; clear p0 p1 pl hb4 ho4; obtain ⟨p0, p1, -, -, pl⟩ := block2 (unhide HP4))
        | (go_at_call 48; refine (unhide HBO _).mono ?_; rintro e w5 ⟨rfl, hb5⟩; have HB5 := hide (Below.next (unhide HX) (Below.next (unhide HB4) hb5 (Nat.le_refl _)) (Nat.le_refl _)); have HP5 := hide (keep_below (unhide HP4) hb5); have HO5 := hide ((unhide HO4).below hb5); have HSZ := hide (Nat.le_trans (unhide HX).size (unhide HB3).size); clear p0 p1 pl hb5; obtain ⟨p0, p1, g0, g1, pl⟩ := block2 (unhide HP5)))
      go_roundw
      case rel =>
        have hlo := size_of (unhide HP3)
        exact ⟨k, q, c4, a4, nl, BS, Y2, rfl, by omega, by omega, HQ, hide (((unhide HO5).set (R := w.heap.size) (i := 0) (y := .int .i64 BS) hlo).set (R := w.heap.size) (i := 1) (y := .int .i64 Y2) hlo).isl, HR2, HF2, HFB, HE2, hide (set2_block (unhide HP5)), hide (below_set2 (unhide HB5) (Nat.le_refl _) _ _)⟩
      case measure => simp [lenOf]; omega
    | false =>
      rw [if_neg (by decide)] at hE
      have e1 : l = FL := congrArg Prod.fst hE
      have e2 : (x, y) = FX := congrArg Prod.snd hE
      have HWI : Hid (∀ W vy, Below wr.heap.size wr W → IsL KB W vy [(x, y)] → Calls Try.prog 28 #[.slice a n cp, vy] W fun e w' => ∃ a' c', e = .returned (.slice a' (n + 1) c') ∧ Own KB W.heap.size w' (.slice a' (n + 1) c') (insB FX FL) ∧ Below W.heap.size W w') := fun W vy hW hy => by
        have := with_any W (.slice a n cp) vy l [(x, y)] ((unhide HL).below hW) hy (by rw [unhide HLN]; omega) (by simp) (fun j hj => by
          have : j = 0 := by simp at hj; omega
          subst this
          exact unhide HR)
        rw [unhide HLN] at this
        rw [← e1, ← e2]
        exact this
      have HJL : Hid ((insB FX FL).length = n + 1) := by rw [insB_len, ← e1, unhide HLN]; exact rfl
      clear hE e1 e2 f1 f2 f3 f4 f5 eM hmB eR HL HR HF HXF HE HLN
      go_wp2_with (first
        | (go_at_call 41; refine (unhide HM wr).mono ?_; rintro e w1 ⟨rfl, hb1⟩; have HB1 := hide hb1; have HP1 := hide (keep_below (unhide HP) hb1); clear hb1)
        | (go_at_call 40; refine (unhide HH _ (unhide HB1)).mono ?_; rintro e w2 ⟨rfl, hb2⟩; have HB2 := hide (Below.next (unhide HB1) hb2 (Nat.le_refl _)); have HP2 := hide (keep_below (unhide HP1) hb2); clear p0 p1 pl hb2; obtain ⟨p0, p1, -, -, pl⟩ := block2 (unhide HP2))
        | (go_at_call 28; refine (unhide HWI _ _ ((unhide HB2).alloc (unhide HB2).size _) (isl_one kb w2 (x, y))).mono ?_; rintro e w4 ⟨a4, c4, rfl, ho4, hb4⟩; have HB4 := hide (Below.next (unhide HX) (Below.next ((unhide HB2).alloc (unhide HB2).size _) hb4 (Nat.le_refl _)) (Nat.le_refl _)); have HO4 := hide ho4; have HSZ := hide ((Below.next (unhide HX) ((unhide HB2).alloc (unhide HB2).size (.cells #[.int .i64 x, .int .i64 y] 38)) (Nat.le_refl _)).size); clear hb4 ho4))
      go_ret
      rw [unhide HJL]
      exact ⟨a4, c4, rfl, (unhide HO4).base (unhide HSZ), unhide HB4⟩
end Go.Proofs.Ytomhfnjnmhdpkaa
