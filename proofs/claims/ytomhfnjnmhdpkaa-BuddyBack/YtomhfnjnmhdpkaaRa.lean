/-
  taskmillref.Returned.
-/
import Derived.Test.YtomhfnjnmhdpkaaY
namespace Go.Proofs.Ytomhfnjnmhdpkaa
open Go.RowKit

theorem sep_both {x z : Bl} (hx : 1 ≤ x.2) (hz : 1 ≤ z.2) (h1 : Sep x z) (h2 : Sep (mateB x) z) : Sep (bothB x) z := by
  obtain ⟨t, c⟩ := x
  unfold Sep mateB bothB mateS bothS at *
  simp only at *
  cases e : evn t c with
  | true =>
    rw [e] at h2
    simp only [if_true] at h2 ⊢
    rcases h1 with h1 | h1 <;> rcases h2 with h2 | h2 <;> omega
  | false =>
    rw [e] at h2
    simp only [Bool.false_eq_true, if_false] at h2 ⊢
    rcases h1 with h1 | h1 <;> rcases h2 with h2 | h2 <;> omega
theorem noB_fol {x : Bl} {xs : List Bl} (h : Fol xs) : Fol (noB x xs) := List.Pairwise.sublist (noB_sub x xs) h
/-- What holds of a block beside a list that it is joined to. -/
structure Join (U : Int) (l : List Bl) (x : Bl) : Prop where
  fit : fitB U x = true
  fits : ∀ z ∈ l, fitB U z = true
  rise : Rise l
  fol : Fol l
  sep : ∀ z ∈ l, Sep x z
theorem Join.next {U : Int} {l : List Bl} {x : Bl} (h : Join U l x) (hU : U ≤ 1073741824) (hm : hasB (mateB x) l = true) : Join U (noB (mateB x) l) (bothB x) := by
  have hmem := (hasB_iff _ _).1 hm
  refine ⟨(fit_both hU h.fit (h.fits _ hmem)).1, fun z hz => h.fits z (noB_mem hz), noB_rise h.rise, noB_fol h.fol, fun z hz => ?_⟩
  obtain ⟨h1, h2⟩ := noB_iff.1 hz
  exact sep_both (pw_pos (fit_parts h.fit).1) (pw_pos (fit_parts (h.fits z h1)).1) (h.sep z h1) (fol_sep h.fol hmem h1 h2)
theorem Join.ne {U : Int} {l : List Bl} {x : Bl} (h : Join U l x) : ∀ z ∈ l, z.1 ≠ x.1 := fun z hz => (h.sep z hz).symm.ne (pw_pos (fit_parts (h.fits z hz)).1) (pw_pos (fit_parts h.fit).1)
theorem mate_top {U : Int} {l : List Bl} {x : Bl} (h : Join U l x) (hu : ¬ x.2 < U) : hasB (mateB x) l = false := by
  obtain ⟨t, c⟩ := x
  obtain ⟨h1, h2, h3, h4⟩ := fit_parts h.fit
  simp only at h1 h2 h3 h4 hu
  have hp := pw_pos h1
  have ht : t = 0 := by omega
  rw [Bool.eq_false_iff]
  intro h'
  obtain ⟨-, g2, -, g4⟩ := fit_parts (h.fits _ ((hasB_iff _ _).1 h'))
  subst ht
  simp only [mateB, mateS, evn, Int.zero_ediv] at g2 g4
  simp at g4
  omega
theorem isl_empty {w w' : World} {v : Value} (h : IsL KB w v []) : IsL KB w' v [] := by
  obtain ⟨a, c, rfl⟩ := h.form
  cases a with
  | none =>
    obtain ⟨⟨_, ⟨h1, _⟩ | ⟨ad, cap, h1, _⟩⟩, h2⟩ := h
    · cases h1
      exact isl_nil w'
    · cases h1
  | some ad => exact IsL.none_left rfl
def lenAt (w : World) (R : Nat) : Nat := match w.cell? ⟨R, 2, none⟩ with | some v => lenOf v | none => 0
theorem lenAt_of {w : World} {R : Nat} {x y : Value} {a : Option Addr} {n cp : Nat} {t : TypeId} (h : w.heap[R]? = some (.cells #[x, y, .slice a n cp] t (0, 0))) : lenAt w R = n := by
  unfold lenAt
  rw [(block3 h).1.2.2]
  rfl
theorem IsL.keepx {w : World} {v : Value} {xs : List Bl} {R i : Nat} {y : Value} (h : IsL KB w v xs) (hne : 0 < xs.length → ∀ k, v.ownBlock = some k → k ≠ R) : IsL KB (w.setCell ⟨R, i, none⟩ y) v xs := by
  by_cases h0 : 0 < xs.length
  · exact h.keep kb (fun k hk => Below.heap_setCell _ _ _ _ (by simpa using hne h0 k hk))
  · have e : xs = [] := List.eq_nil_of_length_eq_zero (by omega)
    subst e
    exact isl_empty h
theorem set3c {w : World} {R : Nat} {x y z z' : Value} {t : TypeId} (h : w.heap[R]? = some (.cells #[x, y, z] t (0, 0))) : (w.setCell ⟨R, 2, none⟩ z').heap[R]? = some (.cells #[x, y, z'] t (0, 0)) := by
  simp [World.setCell, Array.getElem?_modify, h]
theorem set3b {w : World} {R : Nat} {x y z y' : Value} {t : TypeId} (h : w.heap[R]? = some (.cells #[x, y, z] t (0, 0))) : (w.setCell ⟨R, 1, none⟩ y').heap[R]? = some (.cells #[x, y', z] t (0, 0)) := by
  simp [World.setCell, Array.getElem?_modify, h]
theorem set2a {w : World} {R : Nat} {x y x' : Value} {t : TypeId} (h : w.heap[R]? = some (.cells #[x, y] t (0, 0))) : (w.setCell ⟨R, 0, none⟩ x').heap[R]? = some (.cells #[x', y] t (0, 0)) := by
  simp [World.setCell, Array.getElem?_modify, h]
theorem shift30 {b : Int} (h0 : 0 ≤ b) (h1 : b ≤ 30) : Op.shift .shl .i64 1 .i64 b = pure (.int .i64 ((2 : Int) ^ b.toNat)) := by
  obtain ⟨n, rfl⟩ := Int.eq_ofNat_of_zero_le h0
  obtain ⟨hu1, hu2⟩ := pow30 h0 h1
  have hsh := wrapi (x := (2 : Int) ^ (n : Int).toNat) (by omega) (by omega)
  have h4 : min n 64 = n := by omega
  have h5 : ¬ ((n : Int) < 0) := by omega
  simp at hsh
  simp [hsh]

set_option maxRecDepth 100000 in
set_option maxHeartbeats 4000000 in
theorem returned_any (w : World) (v : Value) (b : Int) (us fs : List Bl) (t c : Int) (h : IsS w v b us fs) (hn : us.length ≤ 100000) (hm : fs.length ≤ 30000) (hb0 : 0 ≤ b) (hb1 : b ≤ 30) (hj : Join ((2 : Int) ^ b.toNat) fs (t, c)) :
    Calls Try.prog 18 #[v, .agg #[.int .i64 t, .int .i64 c]] w fun e w' => ∃ sv, e = .returned sv ∧ NewS w.heap.size w' sv b (noB (t, c) us) (joinL fs (t, c)) ∧ Below w.heap.size w w' := by
  obtain ⟨hu1, hu2⟩ := pow30 hb0 hb1
  have hshift := shift30 hb0 hb1
  obtain ⟨U, eU⟩ : ∃ U, (2 : Int) ^ b.toNat = U := ⟨_, rfl⟩
  rw [eU] at hj hu1 hu2 hshift
  have hsh : IntKind.i64.wrap U = U := wrapi (by omega) (by omega)
  obtain ⟨a0, c0, a1, c1, rfl, hu, hf⟩ := h.form
  have HNO : Hid (∀ W, Below w.heap.size w W → Calls Try.prog 33 #[.slice a0 us.length c0, .agg #[.int .i64 t, .int .i64 c]] W fun e w' => ∃ a cp, e = .returned (.slice a (noB (t, c) us).length cp) ∧ Own KB W.heap.size w' (.slice a (noB (t, c) us).length cp) (noB (t, c) us) ∧ Below W.heap.size W w') := fun W hW => refNo_any W _ us t c (hu.below hW) hn
  have HL0 := hide hf; have HJ0 := hide hj
  have HOB : Hid (0 < fs.length → ∀ k, (Value.slice a1 fs.length c1).ownBlock = some k → k < w.heap.size) := fun h0 => IsL.old kb hf h0
  obtain ⟨FL, eFL⟩ : ∃ X, (joinN (fs.length + 1) fs (t, c)).1 = X := ⟨_, rfl⟩
  obtain ⟨FX, eFX⟩ : ∃ X, (joinN (fs.length + 1) fs (t, c)).2 = X := ⟨_, rfl⟩
  have HE0 : Hid (joinN (fs.length + 1) fs (t, c) = (FL, FX)) := by rw [← eFL, ← eFX]; exact rfl
  have eJ : joinL fs (t, c) = insB FX FL := by unfold joinL; rw [eFL, eFX]
  rw [eJ]
  obtain ⟨nl, enl⟩ : ∃ X, noB (t, c) us = X := ⟨_, rfl⟩
  rw [enl] at HNO ⊢
  obtain ⟨nu, enu⟩ : ∃ X, nl.length = X := ⟨_, rfl⟩
  rw [enu] at HNO
  have HNU := hide enu
  obtain ⟨N, eN⟩ : ∃ N, fs.length + 1 = N := ⟨_, rfl⟩
  rw [eN] at HE0
  obtain ⟨m, em⟩ : ∃ m, fs.length = m := ⟨_, rfl⟩
  rw [em] at HL0 hm eN HOB
  have HLN0 := hide em
  have hN : m + 1 ≤ N := Nat.le_of_eq eN
  obtain ⟨n0, en0⟩ : ∃ n, us.length = n := ⟨_, rfl⟩
  rw [en0] at HNO
  have hv : Value.agg #[.int .i64 b, .slice a0 us.length c0, .slice a1 fs.length c1] = .agg #[.int .i64 b, .slice a0 n0 c0, .slice a1 m c1] := by rw [en0, em]
  rw [hv]
  obtain ⟨W0, e0, hB, k0, k1, k2⟩ := three_new w (.cells #[.int .i64 b, .slice a0 n0 c0, .slice a1 m c1] 24) (.cells #[.int .i64 t, .int .i64 c] 38) (.cells #[.int .i64 0, .slice none 0 0, .slice none 0 0] 24)
  have HX := hide hB; have HP := hide k0; have HQ := hide k1; have HG := hide k2; have HE := hide e0
  clear h hu hf hj eFL eFX eJ enl enu eN em en0 hv hB k0 k1 k2 e0 hn
  go_enter Try.func18, Try.ntmps18
  go_upto_region 1 with fail
  rw [unhide HE]
  clear HE
  obtain ⟨⟨p0, p1, p2⟩, ⟨pf0, pf1, pf2⟩, pl⟩ := block3 (unhide HP)
  obtain ⟨q0, q1, -, -, ql⟩ := block2 (unhide HQ)
  have hgl := size_of (unhide HG)
  go_upto_region 2 with (go_at_call 33; refine (unhide HNO _ (unhide HX)).mono ?_; rintro e w1 ⟨a6, c6, rfl, ho6, hb6⟩; have HX6 := hide (Below.next (unhide HX) hb6 (Nat.le_refl _)); have HP6 := hide (keep_below (unhide HP) hb6); have HQ6 := hide (keep_below (unhide HQ) hb6); have HG6 := hide (keep_below (unhide HG) hb6); have HO6 := hide (ho6.base (base' := w.heap.size + 3) (by omega)); clear p0 p1 p2 pf0 pf1 pf2 pl ho6 hb6; obtain ⟨⟨p0, p1, p2⟩, ⟨pf0, pf1, pf2⟩, pl⟩ := block3 (unhide HP6))
  have HP7 : Hid ((w1.setCell ⟨w.heap.size, 1, none⟩ (.slice a6 nu c6)).heap[w.heap.size]? = some (.cells #[.int .i64 b, .slice a6 nu c6, .slice a1 m c1] 24 (0, 0))) := set3b (unhide HP6)
  have HQ7 := hide (keep_set (g := w.heap.size) (o := 1) (v := .slice a6 nu c6) (unhide HQ6) (by omega))
  have HG7 := hide (keep_set (g := w.heap.size) (o := 1) (v := .slice a6 nu c6) (unhide HG6) (by omega))
  have HO7 := hide ((unhide HO6).set (R := w.heap.size) (i := 1) (y := .slice a6 nu c6) (by omega))
  have HX7 := hide (below_set (i := 1) (unhide HX6) (Nat.le_refl _) (.slice a6 nu c6))
  have HL7 := hide (((unhide HL0).below (unhide HX6)).keepx (R := w.heap.size) (i := 1) (y := .slice a6 nu c6) (fun h0 k hk => by have := unhide HOB (by rw [unhide HLN0] at h0; exact h0) k hk; omega))
  have HOB7 : Hid (0 < fs.length → ∀ k, (Value.slice a1 m c1).ownBlock = some k → k ≠ w.heap.size ∧ k ≠ w.heap.size + 1) := fun h0 k hk => by have := unhide HOB (by rw [unhide HLN0] at h0; exact h0) k hk; omega
  obtain ⟨W1, e1⟩ : ∃ X, w1.setCell ⟨w.heap.size, 1, none⟩ (.slice a6 nu c6) = X := ⟨_, rfl⟩
  rw [e1] at HP7 HQ7 HG7 HO7 HX7 HL7
  (try rw [e1])
  clear e1 p0 p1 p2 pf0 pf1 pf2 pl q0 q1 ql hgl HP6 HQ6 HG6 HO6 HX6 HX HP HQ HG HL0 HOB HNO
  go_loopw [5] (fun _ wr => ∃ (k n cp : Nat) (a : Option Addr) (l : List Bl) (x y : Int), n ≤ 30000 ∧ n + 1 ≤ k ∧ Hid (l.length = n) ∧ Hid (IsL KB wr (.slice a n cp) l) ∧ Hid (0 < l.length → ∀ k, (Value.slice a n cp).ownBlock = some k → k ≠ w.heap.size ∧ k ≠ w.heap.size + 1) ∧ Hid (Join U l (x, y)) ∧ Hid (joinN k l (x, y) = (FL, FX)) ∧ Hid (wr.heap[w.heap.size]? = some (.cells #[.int .i64 b, .slice a6 nu c6, .slice a n cp] 24 (0, 0))) ∧ Hid (wr.heap[w.heap.size + 1]? = some (.cells #[.int .i64 x, .int .i64 y] 38 (0, 0))) ∧ Hid (wr.heap[w.heap.size + 1 + 1]? = some (.cells #[.int .i64 0, .slice none 0 0, .slice none 0 0] 24 (0, 0))) ∧ Hid (Own KB (w.heap.size + 3) wr (.slice a6 nu c6) nl) ∧ Hid (Below w.heap.size w wr)) (fun _ wr => lenAt wr w.heap.size)
  case atStart => exact ⟨N, m, c1, a1, fs, t, c, hm, hN, HLN0, HL7, HOB7, HJ0, HE0, HP7, HQ7, HG7, HO7, HX7⟩
  case round =>
    clear HP7 HQ7 HG7 HO7 HX7 HL7 HOB7 HJ0 HE0 hN hm HLN0
    obtain ⟨k, n, cp, a, l, x, y, hn, hk, HLN, HL, HOB, HJ, HE, HP, HQ, HG, HO, HX⟩ := hrel
    obtain ⟨f1, f2, f3, f4⟩ := fit_parts (unhide HJ).fit
    simp only at f1 f2 f3 f4
    have f5 := pw_pos f1
    obtain ⟨M, eM⟩ : ∃ M, mateS x y = M := ⟨_, rfl⟩
    have HM : Hid (∀ W, Calls Try.prog 32 #[.agg #[.int .i64 x, .int .i64 y]] W fun e w' => e = .returned (.agg #[.int .i64 M, .int .i64 y]) ∧ Below W.heap.size W w') := fun W => by
      have := refMate_any W x y f1 f2 (by omega)
      rw [eM] at this; exact this
    have hmB : mateB (x, y) = (M, y) := by unfold mateB; simp only; rw [eM]
    obtain ⟨R, eR⟩ : ∃ R, hasB (M, y) l = R := ⟨_, rfl⟩
    have HFB : Hid (∀ W, Below wr.heap.size wr W → Calls Try.prog 31 #[.slice a n cp, .agg #[.int .i64 M, .int .i64 y]] W fun e w' => ∃ r : Int, e = .returned (.int .i64 r) ∧ decide (0 ≤ r) = R ∧ Below W.heap.size W w') := fun W hW => by
      have := find_any W (.slice a n cp) l M y ((unhide HL).below hW) (by rw [unhide HLN]; omega)
      rw [eR] at this
      exact this
    obtain ⟨k, rfl⟩ : ∃ k', k = k' + 1 := ⟨k - 1, by omega⟩
    have hE := unhide HE
    rw [joinN, hmB, eR] at hE
    have HSS : Hid (∀ W, Below wr.heap.size wr W → ((W.cell? ⟨w.heap.size, 0, none⟩ = some (.int .i64 b) ∧ W.cell? ⟨w.heap.size, 2, none⟩ = some (.slice a n cp)) ∧ (W.cell? ⟨w.heap.size + 1, 0, none⟩ = some (.int .i64 x) ∧ W.cell? ⟨w.heap.size + 1, 1, none⟩ = some (.int .i64 y))) ∧ Below wr.heap.size wr W) := fun W hW => ⟨⟨⟨(block3 (keep_below (unhide HP) hW)).1.1, (block3 (keep_below (unhide HP) hW)).1.2.2⟩, (block2 (keep_below (unhide HQ) hW)).1, (block2 (keep_below (unhide HQ) hW)).2.1⟩, hW⟩
    obtain ⟨⟨p0, p1, p2⟩, ⟨pf0, pf1, pf2⟩, pl⟩ := block3 (unhide HP)
    obtain ⟨q0, q1, qf0, qf1, ql⟩ := block2 (unhide HQ)
    by_cases hyU : y < U
    · cases R with
      | true =>
        rw [if_pos rfl] at hE
        have hmem : (M, y) ∈ l := (hasB_iff _ _).1 eR
        have hjn := (unhide HJ).next hu2 (by rw [hmB]; exact eR)
        have hy : y ≤ 536870912 := by
          have := (fit_both hu2 (unhide HJ).fit (by rw [hmB]; exact (unhide HJ).fits _ hmem)).2
          exact this
        have hlt := noB_less eR
        rw [unhide HLN] at hlt
        rw [hmB] at hjn
        have hMf := fit_parts ((unhide HJ).fits _ hmem)
        simp only at hMf
        have HNO : Hid (∀ W, Below wr.heap.size wr W → Calls Try.prog 33 #[.slice a n cp, .agg #[.int .i64 M, .int .i64 y]] W fun e w' => ∃ a' c', e = .returned (.slice a' (noB (M, y) l).length c') ∧ Own KB W.heap.size w' (.slice a' (noB (M, y) l).length c') (noB (M, y) l) ∧ Below W.heap.size W w') := fun W hW => refNo_any W _ l M y ((unhide HL).below hW) (by rw [unhide HLN]; omega)
        have hE2 : joinN k (noB (M, y) l) (bothS x y, 2 * y) = (FL, FX) := hE
        have hjn2 : Join U (noB (M, y) l) (bothS x y, 2 * y) := hjn
        have hw2 : IntKind.i64.wrap (2 * y) = 2 * y := wrapi (by omega) (by omega)
        obtain ⟨nl2, enl2⟩ : ∃ X, noB (M, y) l = X := ⟨_, rfl⟩
        rw [enl2] at HNO hE2 hjn2 hlt
        obtain ⟨q, eq⟩ : ∃ q, nl2.length = q := ⟨_, rfl⟩
        rw [eq] at HNO hlt
        have HQL := hide eq
        have HE2 := hide hE2; have HJ2 := hide hjn2
        have hbs : (M < x ∧ bothS x y = M) ∨ (¬ M < x ∧ bothS x y = x) := by
          rw [← eM]
          unfold mateS bothS
          cases evn x y with
          | true => right; simp only [if_true]; exact ⟨by omega, trivial⟩
          | false => left; simp only [Bool.false_eq_true, if_false]; exact ⟨by omega, trivial⟩
        obtain ⟨BS, eBS⟩ : ∃ X, bothS x y = X := ⟨_, rfl⟩
        rw [eBS] at HE2 HJ2 hbs
        clear hE hmem hjn hMf hE2 hjn2 eBS enl2 eq eM hmB eR f1 f2 f3 f4 HE HJ hy HL HOB
        go_upto_region 2 with fail
        go_region_held3 (fun W => ((W.cell? ⟨w.heap.size, 0, none⟩ = some (.int .i64 b) ∧ W.cell? ⟨w.heap.size, 2, none⟩ = some (.slice a n cp)) ∧ (W.cell? ⟨w.heap.size + 1, 0, none⟩ = some (.int .i64 x) ∧ W.cell? ⟨w.heap.size + 1, 1, none⟩ = some (.int .i64 y))) ∧ Below wr.heap.size wr W)
          (first | with_reducible exact unhide HSS _ (Below.refl _ _).drew | with_reducible exact unhide HSS _ (unhide HY5) | with_reducible exact unhide HSS _ (unhide HY6))
          (first
            | (go_at_call 32; refine (unhide HM _).mono ?_; rintro e w5 ⟨rfl, hb5⟩; have HY5 : Hid (Below wr.heap.size wr w5) := Below.next (Below.refl _ _).drew hb5 (Nat.le_refl _); clear hb5)
            | (go_at_call 31; refine (unhide HFB _ (unhide HY5)).mono ?_; rintro e w6 ⟨rr, rfl, hrr, hb6⟩; have hr0 : 0 ≤ rr := (by simpa using hrr); have HY6 : Hid (Below wr.heap.size wr w6) := Below.next (unhide HY5) hb6 (Nat.le_refl _); clear hb6 hrr))
        all_goals
          (have HX6 := hide (Below.next (unhide HX) (unhide HY6) (Nat.le_refl _)); have HP6 := hide (keep_below (unhide HP) (unhide HY6)); have HQ6 := hide (keep_below (unhide HQ) (unhide HY6)); have HG6 := hide (keep_below (unhide HG) (unhide HY6)); have HO6 := hide ((unhide HO).below (unhide HY6)))
          have hlr := lenAt_of (unhide HP)
          have HLR := hide hlr
          clear hlr p0 p1 p2 pf0 pf1 pf2 pl q0 q1 qf0 qf1 ql HX HP HQ HG HO
          obtain ⟨⟨p0, p1, p2⟩, ⟨pf0, pf1, pf2⟩, pl⟩ := block3 (unhide HP6)
          obtain ⟨q0, q1, qf0, qf1, ql⟩ := block2 (unhide HQ6)
          rcases hbs with ⟨hb1, hbb⟩ | ⟨hb1, hbb⟩
          · have hbb2 := hbb.symm
            subst hbb2
            clear hbb
            go_upto_region 4 with (go_at_call 32; refine (unhide HM _).mono ?_; rintro e w7 ⟨rfl, hb7⟩; have HY7 := hide (Below.next (unhide HY6) hb7 (Nat.le_refl _)); have HX7 := hide (Below.next (unhide HX6) hb7 (Nat.le_refl _)); have HP7 := hide (keep_below (unhide HP6) hb7); have HQ7 := hide (keep_below (unhide HQ6) hb7); have HG7 := hide (keep_below (unhide HG6) hb7); have HO7 := hide ((unhide HO6).below hb7); clear hb7)
            have HN8 := hide (new_block w7 (.cells #[.int .i64 M, .int .i64 y] 38))
            have hb8 := (Below.refl w7.heap.size w7).alloc (Nat.le_refl _) (.cells #[.int .i64 M, .int .i64 y] 38)
            have hmb7 : w.heap.size + 1 + 1 < w7.heap.size := size_of (unhide HG7)
            obtain ⟨MB, eMB⟩ : ∃ X, w7.heap.size = X := ⟨_, rfl⟩
            obtain ⟨W8, e8⟩ : ∃ X, w7.alloc (.cells #[.int .i64 M, .int .i64 y] 38) = X := ⟨_, rfl⟩
            rw [e8] at hb8 HN8
            have HY8 := hide (Below.next (unhide HY7) hb8 (Nat.le_refl _)); have HX8 := hide (Below.next (unhide HX7) hb8 (Nat.le_refl _)); have HP8 := hide (keep_below (unhide HP7) hb8); have HQ8 := hide (keep_below (unhide HQ7) hb8); have HG8 := hide (keep_below (unhide HG7) hb8); have HO8 := hide ((unhide HO7).below hb8)
            rw [eMB] at HN8 hmb7
            (try rw [e8]); (try rw [eMB])
            clear e8 eMB hb8 p0 p1 p2 pf0 pf1 pf2 pl q0 q1 qf0 qf1 ql HP7 HQ7 HG7 HO7 HX7 HP6 HQ6 HG6 HO6 HX6
            obtain ⟨⟨p0, p1, p2⟩, ⟨pf0, pf1, pf2⟩, pl⟩ := block3 (unhide HP8)
            obtain ⟨z0, z1, -, -, zl⟩ := block2 (unhide HN8)
            go_upto_region 5 with (go_at_call 33; refine (unhide HNO _ (unhide HY8)).mono ?_; rintro e w9 ⟨a9, c9, rfl, ho9, hb9⟩; have HX9 := hide (Below.next (unhide HX8) hb9 (Nat.le_refl _)); have HP9 := hide (keep_below (unhide HP8) hb9); have HQ9 := hide (keep_below (unhide HQ8) hb9); have HG9 := hide (keep_below (unhide HG8) hb9); have HN9 := hide (keep_below (unhide HN8) hb9); have HO9 := hide ((unhide HO8).below hb9); have HF9 := hide (ho9.base (base' := w.heap.size + 3) (by have := size_of (unhide HG8); omega)); clear ho9 hb9 p0 p1 p2 pf0 pf1 pf2 pl z0 z1 zl; obtain ⟨⟨p0, p1, p2⟩, ⟨pf0, pf1, pf2⟩, pl⟩ := block3 (unhide HP9))
            have HPa : Hid ((w9.setCell ⟨w.heap.size, 2, none⟩ (.slice a9 q c9)).heap[w.heap.size]? = some (.cells #[.int .i64 b, .slice a6 nu c6, .slice a9 q c9] 24 (0, 0))) := set3c (unhide HP9)
            have HQa := hide (keep_set (g := w.heap.size) (o := 2) (v := .slice a9 q c9) (unhide HQ9) (by omega))
            have HGa := hide (keep_set (g := w.heap.size) (o := 2) (v := .slice a9 q c9) (unhide HG9) (by omega))
            have HNa := hide (keep_set (g := w.heap.size) (o := 2) (v := .slice a9 q c9) (unhide HN9) (by omega))
            have HOa := hide ((unhide HO9).set (R := w.heap.size) (i := 2) (y := .slice a9 q c9) (by omega))
            have HFa := hide ((unhide HF9).set (R := w.heap.size) (i := 2) (y := .slice a9 q c9) (by omega))
            have HXa := hide (below_set (i := 2) (unhide HX9) (Nat.le_refl _) (.slice a9 q c9))
            obtain ⟨Wa, ea⟩ : ∃ X, w9.setCell ⟨w.heap.size, 2, none⟩ (.slice a9 q c9) = X := ⟨_, rfl⟩
            rw [ea] at HPa HQa HGa HNa HOa HFa HXa
            (try rw [ea])
            clear ea p0 p1 p2 pf0 pf1 pf2 pl HP9 HQ9 HG9 HN9 HO9 HF9 HX9
            obtain ⟨q0, q1, qf0, qf1, ql⟩ := block2 (unhide HQa)
            obtain ⟨z0, z1, -, -, zl⟩ := block2 (unhide HNa)
            go_upto_region 7 with fail
            have HQb : Hid ((Wa.setCell ⟨w.heap.size + 1, 0, none⟩ (.int .i64 M)).heap[w.heap.size + 1]? = some (.cells #[.int .i64 M, .int .i64 y] 38 (0, 0))) := set2a (unhide HQa)
            have HPb := hide (keep_set (g := w.heap.size + 1) (o := 0) (v := .int .i64 M) (unhide HPa) (by omega))
            have HGb := hide (keep_set (g := w.heap.size + 1) (o := 0) (v := .int .i64 M) (unhide HGa) (by omega))
            have HNb := hide (keep_set (g := w.heap.size + 1) (o := 0) (v := .int .i64 M) (unhide HNa) (by omega))
            have HOb := hide ((unhide HOa).set (R := w.heap.size + 1) (i := 0) (y := .int .i64 M) (by omega))
            have HFb := hide ((unhide HFa).set (R := w.heap.size + 1) (i := 0) (y := .int .i64 M) (by omega))
            have HXb := hide (below_set (i := 0) (unhide HXa) (Nat.le_succ _) (.int .i64 M) (R := w.heap.size + 1))
            obtain ⟨Wb, eb⟩ : ∃ X, Wa.setCell ⟨w.heap.size + 1, 0, none⟩ (.int .i64 M) = X := ⟨_, rfl⟩
            rw [eb] at HQb HPb HGb HNb HOb HFb HXb
            (try rw [eb])
            clear eb q0 q1 qf0 qf1 ql z0 z1 zl HQa HPa HGa HNa HOa HFa HXa
            obtain ⟨q0, q1, qf0, qf1, ql⟩ := block2 (unhide HQb)
            obtain ⟨z0, z1, -, -, zl⟩ := block2 (unhide HNb)
            have hq9 := hide (show True from trivial)
            go_wp2_with fail
            have HQc : Hid ((Wb.setCell ⟨w.heap.size + 1, 1, none⟩ (.int .i64 (2 * y))).heap[w.heap.size + 1]? = some (.cells #[.int .i64 M, .int .i64 (2 * y)] 38 (0, 0))) := set2c (unhide HQb)
            have HPc := hide (keep_set (g := w.heap.size + 1) (o := 1) (v := .int .i64 (2 * y)) (unhide HPb) (by omega))
            have HGc := hide (keep_set (g := w.heap.size + 1) (o := 1) (v := .int .i64 (2 * y)) (unhide HGb) (by omega))
            have HNc := hide (keep_set (g := w.heap.size + 1) (o := 1) (v := .int .i64 (2 * y)) (unhide HNb) (by omega))
            have HOc := hide ((unhide HOb).set (R := w.heap.size + 1) (i := 1) (y := .int .i64 (2 * y)) (by omega))
            have HFc := hide ((unhide HFb).set (R := w.heap.size + 1) (i := 1) (y := .int .i64 (2 * y)) (by omega))
            have HXc := hide (below_set (i := 1) (unhide HXb) (Nat.le_succ _) (.int .i64 (2 * y)) (R := w.heap.size + 1))
            obtain ⟨Wc, ec⟩ : ∃ X, Wb.setCell ⟨w.heap.size + 1, 1, none⟩ (.int .i64 (2 * y)) = X := ⟨_, rfl⟩
            rw [ec] at HQc HPc HGc HNc HOc HFc HXc
            (try rw [ec])
            clear ec q0 q1 qf0 qf1 ql z0 z1 zl HQb HPb HGb HNb HOb HFb HXb
            go_roundw
            case rel => exact ⟨k, q, c9, a9, nl2, M, 2 * y, by omega, by omega, HQL, hide (unhide HFc).isl, hide (fun _ k hk => by have := ((unhide HFc).lt k hk).1; omega), HJ2, HE2, HPc, HQc, HGc, HOc, HXc⟩
            case measure =>
              have h1 := lenAt_of (unhide HPc)
              have h2 := unhide HLR
              show lenAt Wc w.heap.size < lenAt wr w.heap.size
              rw [h1, h2]
              exact hlt
          · have hbb2 := hbb.symm
            subst hbb2
            clear hbb
            go_upto_region 4 with (go_at_call 32; refine (unhide HM _).mono ?_; rintro e w7 ⟨rfl, hb7⟩; have HY7 := hide (Below.next (unhide HY6) hb7 (Nat.le_refl _)); have HX7 := hide (Below.next (unhide HX6) hb7 (Nat.le_refl _)); have HP7 := hide (keep_below (unhide HP6) hb7); have HQ7 := hide (keep_below (unhide HQ6) hb7); have HG7 := hide (keep_below (unhide HG6) hb7); have HO7 := hide ((unhide HO6).below hb7); clear hb7)
            have HN8 := hide (new_block w7 (.cells #[.int .i64 M, .int .i64 y] 38))
            have hb8 := (Below.refl w7.heap.size w7).alloc (Nat.le_refl _) (.cells #[.int .i64 M, .int .i64 y] 38)
            have hmb7 : w.heap.size + 1 + 1 < w7.heap.size := size_of (unhide HG7)
            obtain ⟨MB, eMB⟩ : ∃ X, w7.heap.size = X := ⟨_, rfl⟩
            obtain ⟨W8, e8⟩ : ∃ X, w7.alloc (.cells #[.int .i64 M, .int .i64 y] 38) = X := ⟨_, rfl⟩
            rw [e8] at hb8 HN8
            have HY8 := hide (Below.next (unhide HY7) hb8 (Nat.le_refl _)); have HX8 := hide (Below.next (unhide HX7) hb8 (Nat.le_refl _)); have HP8 := hide (keep_below (unhide HP7) hb8); have HQ8 := hide (keep_below (unhide HQ7) hb8); have HG8 := hide (keep_below (unhide HG7) hb8); have HO8 := hide ((unhide HO7).below hb8)
            rw [eMB] at HN8 hmb7
            (try rw [e8]); (try rw [eMB])
            clear e8 eMB hb8 p0 p1 p2 pf0 pf1 pf2 pl q0 q1 qf0 qf1 ql HP7 HQ7 HG7 HO7 HX7 HP6 HQ6 HG6 HO6 HX6
            obtain ⟨⟨p0, p1, p2⟩, ⟨pf0, pf1, pf2⟩, pl⟩ := block3 (unhide HP8)
            obtain ⟨z0, z1, -, -, zl⟩ := block2 (unhide HN8)
            go_upto_region 5 with (go_at_call 33; refine (unhide HNO _ (unhide HY8)).mono ?_; rintro e w9 ⟨a9, c9, rfl, ho9, hb9⟩; have HX9 := hide (Below.next (unhide HX8) hb9 (Nat.le_refl _)); have HP9 := hide (keep_below (unhide HP8) hb9); have HQ9 := hide (keep_below (unhide HQ8) hb9); have HG9 := hide (keep_below (unhide HG8) hb9); have HN9 := hide (keep_below (unhide HN8) hb9); have HO9 := hide ((unhide HO8).below hb9); have HF9 := hide (ho9.base (base' := w.heap.size + 3) (by have := size_of (unhide HG8); omega)); clear ho9 hb9 p0 p1 p2 pf0 pf1 pf2 pl z0 z1 zl; obtain ⟨⟨p0, p1, p2⟩, ⟨pf0, pf1, pf2⟩, pl⟩ := block3 (unhide HP9))
            have HPa : Hid ((w9.setCell ⟨w.heap.size, 2, none⟩ (.slice a9 q c9)).heap[w.heap.size]? = some (.cells #[.int .i64 b, .slice a6 nu c6, .slice a9 q c9] 24 (0, 0))) := set3c (unhide HP9)
            have HQa := hide (keep_set (g := w.heap.size) (o := 2) (v := .slice a9 q c9) (unhide HQ9) (by omega))
            have HGa := hide (keep_set (g := w.heap.size) (o := 2) (v := .slice a9 q c9) (unhide HG9) (by omega))
            have HNa := hide (keep_set (g := w.heap.size) (o := 2) (v := .slice a9 q c9) (unhide HN9) (by omega))
            have HOa := hide ((unhide HO9).set (R := w.heap.size) (i := 2) (y := .slice a9 q c9) (by omega))
            have HFa := hide ((unhide HF9).set (R := w.heap.size) (i := 2) (y := .slice a9 q c9) (by omega))
            have HXa := hide (below_set (i := 2) (unhide HX9) (Nat.le_refl _) (.slice a9 q c9))
            obtain ⟨Wa, ea⟩ : ∃ X, w9.setCell ⟨w.heap.size, 2, none⟩ (.slice a9 q c9) = X := ⟨_, rfl⟩
            rw [ea] at HPa HQa HGa HNa HOa HFa HXa
            (try rw [ea])
            clear ea p0 p1 p2 pf0 pf1 pf2 pl HP9 HQ9 HG9 HN9 HO9 HF9 HX9
            obtain ⟨q0, q1, qf0, qf1, ql⟩ := block2 (unhide HQa)
            obtain ⟨z0, z1, -, -, zl⟩ := block2 (unhide HNa)
            have hq9 := hide (show True from trivial)
            go_wp2_with fail
            have HQc : Hid ((Wa.setCell ⟨w.heap.size + 1, 1, none⟩ (.int .i64 (2 * y))).heap[w.heap.size + 1]? = some (.cells #[.int .i64 x, .int .i64 (2 * y)] 38 (0, 0))) := set2c (unhide HQa)
            have HPc := hide (keep_set (g := w.heap.size + 1) (o := 1) (v := .int .i64 (2 * y)) (unhide HPa) (by omega))
            have HGc := hide (keep_set (g := w.heap.size + 1) (o := 1) (v := .int .i64 (2 * y)) (unhide HGa) (by omega))
            have HNc := hide (keep_set (g := w.heap.size + 1) (o := 1) (v := .int .i64 (2 * y)) (unhide HNa) (by omega))
            have HOc := hide ((unhide HOa).set (R := w.heap.size + 1) (i := 1) (y := .int .i64 (2 * y)) (by omega))
            have HFc := hide ((unhide HFa).set (R := w.heap.size + 1) (i := 1) (y := .int .i64 (2 * y)) (by omega))
            have HXc := hide (below_set (i := 1) (unhide HXa) (Nat.le_succ _) (.int .i64 (2 * y)) (R := w.heap.size + 1))
            obtain ⟨Wc, ec⟩ : ∃ X, Wa.setCell ⟨w.heap.size + 1, 1, none⟩ (.int .i64 (2 * y)) = X := ⟨_, rfl⟩
            rw [ec] at HQc HPc HGc HNc HOc HFc HXc
            (try rw [ec])
            clear ec q0 q1 qf0 qf1 ql z0 z1 zl HQa HPa HGa HNa HOa HFa HXa
            go_roundw
            case rel => exact ⟨k, q, c9, a9, nl2, x, 2 * y, by omega, by omega, HQL, hide (unhide HFc).isl, hide (fun _ k hk => by have := ((unhide HFc).lt k hk).1; omega), HJ2, HE2, HPc, HQc, HGc, HOc, HXc⟩
            case measure =>
              have h1 := lenAt_of (unhide HPc)
              have h2 := unhide HLR
              show lenAt Wc w.heap.size < lenAt wr w.heap.size
              rw [h1, h2]
              exact hlt
      | false =>
        rw [if_neg (by decide)] at hE
        have e1 : l = FL := congrArg Prod.fst hE
        have e2 : (x, y) = FX := congrArg Prod.snd hE
        have HWI : Hid (∀ W, Below wr.heap.size wr W → Calls Try.prog 34 #[.slice a n cp, .agg #[.int .i64 x, .int .i64 y]] W fun e w' => ∃ a' c', e = .returned (.slice a' (n + 1) c') ∧ Own KB W.heap.size w' (.slice a' (n + 1) c') (insB FX FL) ∧ Below W.heap.size W w') := fun W hW => by
          have := refWith_any W (.slice a n cp) l x y ((unhide HL).below hW) (by rw [unhide HLN]; omega) (unhide HJ).rise (unhide HJ).ne
          rw [unhide HLN] at this
          rw [← e1, ← e2]
          exact this
        have HJL : Hid ((insB FX FL).length = n + 1) := by rw [insB_len, ← e1, unhide HLN]; exact rfl
        clear hE e1 e2 f1 f2 f3 f4 f5 eM hmB eR HL HOB HJ HE HLN
        go_upto_region 2 with fail
        go_region_held3 (fun W => ((W.cell? ⟨w.heap.size, 0, none⟩ = some (.int .i64 b) ∧ W.cell? ⟨w.heap.size, 2, none⟩ = some (.slice a n cp)) ∧ (W.cell? ⟨w.heap.size + 1, 0, none⟩ = some (.int .i64 x) ∧ W.cell? ⟨w.heap.size + 1, 1, none⟩ = some (.int .i64 y))) ∧ Below wr.heap.size wr W)
          (first | with_reducible exact unhide HSS _ (Below.refl _ _).drew | with_reducible exact unhide HSS _ (unhide HY5) | with_reducible exact unhide HSS _ (unhide HY6))
          (first
            | (go_at_call 32; refine (unhide HM _).mono ?_; rintro e w5 ⟨rfl, hb5⟩; have HY5 : Hid (Below wr.heap.size wr w5) := Below.next (Below.refl _ _).drew hb5 (Nat.le_refl _); clear hb5)
            | (go_at_call 31; refine (unhide HFB _ (unhide HY5)).mono ?_; rintro e w6 ⟨rr, rfl, hrr, hb6⟩; have hr0 : rr < 0 := (by simpa using hrr); have HY6 : Hid (Below wr.heap.size wr w6) := Below.next (unhide HY5) hb6 (Nat.le_refl _); clear hb6 hrr))
        all_goals
          (have HX6 := hide (Below.next (unhide HX) (unhide HY6) (Nat.le_refl _)); have HP6 := hide (keep_below (unhide HP) (unhide HY6)); have HQ6 := hide (keep_below (unhide HQ) (unhide HY6)); have HG6 := hide (keep_below (unhide HG) (unhide HY6)); have HO6 := hide ((unhide HO).below (unhide HY6)))
          clear p0 p1 p2 pf0 pf1 pf2 pl q0 q1 qf0 qf1 ql HX HP HQ HG HO
          obtain ⟨⟨p0, p1, p2⟩, ⟨pf0, pf1, pf2⟩, pl⟩ := block3 (unhide HP6)
          obtain ⟨q0, q1, qf0, qf1, ql⟩ := block2 (unhide HQ6)
          go_upto_region 9 with (go_at_call 34; refine (unhide HWI _ (unhide HY6)).mono ?_; rintro e w9 ⟨a9, c9, rfl, ho9, hb9⟩; have HX9 := hide (Below.next (unhide HX6) hb9 (Nat.le_refl _)); have HP9 := hide (keep_below (unhide HP6) hb9); have HG9 := hide (keep_below (unhide HG6) hb9); have HO9 := hide ((unhide HO6).below hb9); have HF9 := hide (ho9.base (base' := w.heap.size + 3) (by have := size_of (unhide HG6); omega)); clear ho9 hb9 p0 p1 p2 pf0 pf1 pf2 pl q0 q1 qf0 qf1 ql; obtain ⟨⟨p0, p1, p2⟩, ⟨pf0, pf1, pf2⟩, pl⟩ := block3 (unhide HP9))
          have HPa : Hid ((w9.setCell ⟨w.heap.size, 2, none⟩ (.slice a9 (n + 1) c9)).heap[w.heap.size]? = some (.cells #[.int .i64 b, .slice a6 nu c6, .slice a9 (n + 1) c9] 24 (0, 0))) := set3c (unhide HP9)
          have HGa := hide (keep_set (g := w.heap.size) (o := 2) (v := .slice a9 (n + 1) c9) (unhide HG9) (by omega))
          have HOa := hide ((unhide HO9).set (R := w.heap.size) (i := 2) (y := .slice a9 (n + 1) c9) (by omega))
          have HFa := hide ((unhide HF9).set (R := w.heap.size) (i := 2) (y := .slice a9 (n + 1) c9) (by omega))
          have HXa := hide (below_set (i := 2) (unhide HX9) (Nat.le_refl _) (.slice a9 (n + 1) c9))
          obtain ⟨Wa, ea⟩ : ∃ X, w9.setCell ⟨w.heap.size, 2, none⟩ (.slice a9 (n + 1) c9) = X := ⟨_, rfl⟩
          rw [ea] at HPa HGa HOa HFa HXa
          (try rw [ea])
          clear ea p0 p1 p2 pf0 pf1 pf2 pl HP9 HG9 HO9 HF9 HX9
          obtain ⟨⟨p0, p1, p2⟩, ⟨pf0, pf1, pf2⟩, pl⟩ := block3 (unhide HPa)
          obtain ⟨⟨g0, g1, g2⟩, ⟨gf0, gf1, gf2⟩, gl⟩ := block3 (unhide HGa)
          go_wp2_with fail
          have HX_E1 := hide (putL_below (y0 := .int .i64 b) (y1 := .slice a6 nu c6) (y2 := .slice a9 (n + 1) c9) (unhide HXa) (show w.heap.size ≤ w.heap.size + 1 + 1 by first | omega | (have := unhide HBA; omega)))
          have Kg_E1 := hide (putL_new (y0 := .int .i64 b) (y1 := .slice a6 nu c6) (y2 := .slice a9 (n + 1) c9) (unhide HGa))
          have Ou_E1 := hide ((unhide HOa).keep (fun k hk => putL_keep (y0 := .int .i64 b) (y1 := .slice a6 nu c6) (y2 := .slice a9 (n + 1) c9) (Own.ne (unhide HOa) (unhide HGa) (by decide) k hk)))
          have Oj_E1 := hide ((unhide HFa).keep (fun k hk => putL_keep (y0 := .int .i64 b) (y1 := .slice a6 nu c6) (y2 := .slice a9 (n + 1) c9) (Own.ne (unhide HFa) (unhide HGa) (by decide) k hk)))
          obtain ⟨V1, eV1⟩ : ∃ X, putL Wa (w.heap.size + 1 + 1) (.int .i64 b) (.slice a6 nu c6) (.slice a9 (n + 1) c9) = X := ⟨_, rfl⟩
          rw [eV1] at HX_E1 Kg_E1 Ou_E1 Oj_E1
          have eV12 : (((Wa).setCell ⟨w.heap.size + 1 + 1, 0, none⟩ (.int .i64 b)).setCell ⟨w.heap.size + 1 + 1, 1, none⟩ (.slice a6 nu c6)).setCell ⟨w.heap.size + 1 + 1, 2, none⟩ (.slice a9 (n + 1) c9) = V1 := eV1
          rw [eV12]
          clear eV1 eV12 HXa HGa HOa HFa
          clear g0 g1 g2 gf0 gf1 gf2 gl
          obtain ⟨⟨g0, g1, g2⟩, ⟨gf0, gf1, gf2⟩, gl⟩ := block3 (unhide Kg_E1)
          refine bodyPost_ret (v := .agg #[.int .i64 b, .slice a6 nu c6, .slice a9 (n + 1) c9]) (by simp [results, Try.results18, go_sem, g0, g1, g2]) rfl ⟨_, rfl, ⟨a6, c6, a9, c9, ?_, ?_, ?_⟩, unhide HX_E1⟩
          · rw [unhide HNU, unhide HJL]
          · rw [unhide HNU]; exact (unhide Ou_E1).new.base (by omega)
          · rw [unhide HJL]; exact (unhide Oj_E1).new.base (by omega)
    · have hR : R = false := by rw [← eR, ← hmB]; exact mate_top (unhide HJ) hyU
      subst hR
      rw [if_neg (by decide)] at hE
      have e1 : l = FL := congrArg Prod.fst hE
      have e2 : (x, y) = FX := congrArg Prod.snd hE
      have HWI : Hid (∀ W, Below wr.heap.size wr W → Calls Try.prog 34 #[.slice a n cp, .agg #[.int .i64 x, .int .i64 y]] W fun e w' => ∃ a' c', e = .returned (.slice a' (n + 1) c') ∧ Own KB W.heap.size w' (.slice a' (n + 1) c') (insB FX FL) ∧ Below W.heap.size W w') := fun W hW => by
        have := refWith_any W (.slice a n cp) l x y ((unhide HL).below hW) (by rw [unhide HLN]; omega) (unhide HJ).rise (unhide HJ).ne
        rw [unhide HLN] at this
        rw [← e1, ← e2]
        exact this
      have HJL : Hid ((insB FX FL).length = n + 1) := by rw [insB_len, ← e1, unhide HLN]; exact rfl
      clear hE e1 e2 f1 f2 f3 f4 f5 eM hmB eR HL HOB HJ HE HLN
      go_upto_region 2 with fail
      go_quiet (fail)
      have HY6 : Hid (Below wr.heap.size wr (wr.drewN nq)) := below_drewN (Below.refl _ _) nq
      obtain ⟨w6, e6⟩ : ∃ V, wr.drewN nq = V := ⟨_, rfl⟩
      rw [e6] at HY6 ⊢
      clear e6
      (have HX6 := hide (Below.next (unhide HX) (unhide HY6) (Nat.le_refl _)); have HP6 := hide (keep_below (unhide HP) (unhide HY6)); have HQ6 := hide (keep_below (unhide HQ) (unhide HY6)); have HG6 := hide (keep_below (unhide HG) (unhide HY6)); have HO6 := hide ((unhide HO).below (unhide HY6)))
      clear p0 p1 p2 pf0 pf1 pf2 pl q0 q1 qf0 qf1 ql HX HP HQ HG HO
      obtain ⟨⟨p0, p1, p2⟩, ⟨pf0, pf1, pf2⟩, pl⟩ := block3 (unhide HP6)
      obtain ⟨q0, q1, qf0, qf1, ql⟩ := block2 (unhide HQ6)
      go_upto_region 9 with (go_at_call 34; refine (unhide HWI _ (unhide HY6)).mono ?_; rintro e w9 ⟨a9, c9, rfl, ho9, hb9⟩; have HX9 := hide (Below.next (unhide HX6) hb9 (Nat.le_refl _)); have HP9 := hide (keep_below (unhide HP6) hb9); have HG9 := hide (keep_below (unhide HG6) hb9); have HO9 := hide ((unhide HO6).below hb9); have HF9 := hide (ho9.base (base' := w.heap.size + 3) (by have := size_of (unhide HG6); omega)); clear ho9 hb9 p0 p1 p2 pf0 pf1 pf2 pl q0 q1 qf0 qf1 ql; obtain ⟨⟨p0, p1, p2⟩, ⟨pf0, pf1, pf2⟩, pl⟩ := block3 (unhide HP9))
      have HPa : Hid ((w9.setCell ⟨w.heap.size, 2, none⟩ (.slice a9 (n + 1) c9)).heap[w.heap.size]? = some (.cells #[.int .i64 b, .slice a6 nu c6, .slice a9 (n + 1) c9] 24 (0, 0))) := set3c (unhide HP9)
      have HGa := hide (keep_set (g := w.heap.size) (o := 2) (v := .slice a9 (n + 1) c9) (unhide HG9) (by omega))
      have HOa := hide ((unhide HO9).set (R := w.heap.size) (i := 2) (y := .slice a9 (n + 1) c9) (by omega))
      have HFa := hide ((unhide HF9).set (R := w.heap.size) (i := 2) (y := .slice a9 (n + 1) c9) (by omega))
      have HXa := hide (below_set (i := 2) (unhide HX9) (Nat.le_refl _) (.slice a9 (n + 1) c9))
      obtain ⟨Wa, ea⟩ : ∃ X, w9.setCell ⟨w.heap.size, 2, none⟩ (.slice a9 (n + 1) c9) = X := ⟨_, rfl⟩
      rw [ea] at HPa HGa HOa HFa HXa
      (try rw [ea])
      clear ea p0 p1 p2 pf0 pf1 pf2 pl HP9 HG9 HO9 HF9 HX9
      obtain ⟨⟨p0, p1, p2⟩, ⟨pf0, pf1, pf2⟩, pl⟩ := block3 (unhide HPa)
      obtain ⟨⟨g0, g1, g2⟩, ⟨gf0, gf1, gf2⟩, gl⟩ := block3 (unhide HGa)
      go_wp2_with fail
      have HX_E1 := hide (putL_below (y0 := .int .i64 b) (y1 := .slice a6 nu c6) (y2 := .slice a9 (n + 1) c9) (unhide HXa) (show w.heap.size ≤ w.heap.size + 1 + 1 by first | omega | (have := unhide HBA; omega)))
      have Kg_E1 := hide (putL_new (y0 := .int .i64 b) (y1 := .slice a6 nu c6) (y2 := .slice a9 (n + 1) c9) (unhide HGa))
      have Ou_E1 := hide ((unhide HOa).keep (fun k hk => putL_keep (y0 := .int .i64 b) (y1 := .slice a6 nu c6) (y2 := .slice a9 (n + 1) c9) (Own.ne (unhide HOa) (unhide HGa) (by decide) k hk)))
      have Oj_E1 := hide ((unhide HFa).keep (fun k hk => putL_keep (y0 := .int .i64 b) (y1 := .slice a6 nu c6) (y2 := .slice a9 (n + 1) c9) (Own.ne (unhide HFa) (unhide HGa) (by decide) k hk)))
      obtain ⟨V1, eV1⟩ : ∃ X, putL Wa (w.heap.size + 1 + 1) (.int .i64 b) (.slice a6 nu c6) (.slice a9 (n + 1) c9) = X := ⟨_, rfl⟩
      rw [eV1] at HX_E1 Kg_E1 Ou_E1 Oj_E1
      have eV12 : (((Wa).setCell ⟨w.heap.size + 1 + 1, 0, none⟩ (.int .i64 b)).setCell ⟨w.heap.size + 1 + 1, 1, none⟩ (.slice a6 nu c6)).setCell ⟨w.heap.size + 1 + 1, 2, none⟩ (.slice a9 (n + 1) c9) = V1 := eV1
      rw [eV12]
      clear eV1 eV12 HXa HGa HOa HFa
      clear g0 g1 g2 gf0 gf1 gf2 gl
      obtain ⟨⟨g0, g1, g2⟩, ⟨gf0, gf1, gf2⟩, gl⟩ := block3 (unhide Kg_E1)
      refine bodyPost_ret (v := .agg #[.int .i64 b, .slice a6 nu c6, .slice a9 (n + 1) c9]) (by simp [results, Try.results18, go_sem, g0, g1, g2]) rfl ⟨_, rfl, ⟨a6, c6, a9, c9, ?_, ?_, ?_⟩, unhide HX_E1⟩
      · rw [unhide HNU, unhide HJL]
      · rw [unhide HNU]; exact (unhide Ou_E1).new.base (by omega)
      · rw [unhide HJL]; exact (unhide Oj_E1).new.base (by omega)
end Go.Proofs.Ytomhfnjnmhdpkaa
