/-
  taskmilllaw.OrderSwaps: two events change places.
-/
import Derived.Test.YtbnmeeabpjmcoaaSn
namespace Go.Proofs.Ytbnmeeabpjmcoaa
open Go.RowKit

/-- The statement that is the region n, and what follows it. -/
def cutAt (n : Nat) : Code → Option (Code × Code)
  | .seq (.region id ops dr) b => bif Nat.beq id n then some (.region id ops dr, b) else cutAt n b
  | .seq _ b => cutAt n b
  | _ => none
theorem evs_free {base : Nat} {w : World} {g n c : Nat} {xs : List Ev} (h : Own KE base w (.slice (some ⟨g, 0, none⟩) n c) xs) : ∀ o, w.frozen? ⟨g, o, none⟩ = false := fun o => by
  have h' : w.ownsRow base KE.e KE.k (.slice (some ⟨g, 0, none⟩) n c) xs.length (xs.flatMap KE.f) := h
  rcases h'.2 with ⟨h1, h2⟩ | ⟨g', cap, cur, h1, hg, hh, _⟩
  · cases h1
  · cases h1
    simp [World.frozen?, hh]

theorem Lies.put {α : Type} {K : Kind α} (hK : K.Ok) {w : World} {b off j : Nat} {xs : List α} (h : Lies K w b off xs) (hj : j < xs.length) (ht : w.there b (off + j * K.k) K.k) (y : α) : Lies K (w.setCells b (off + j * K.k) (K.f y)) b off (xs.set j y) := fun j' i' u hj' hu => by
  rw [List.length_set] at hj'
  have hlen : ∀ x, (K.f x).length = K.k := hK.len
  have hi' : i' < K.k := by
    have := (List.getElem?_eq_some_iff.1 hu).1
    rwa [hlen] at this
  by_cases e : j' = j
  · subst e
    have e2 : (xs.set j' y).getD j' K.d = y := by rw [List.getD_eq_getElem?_getD, List.getElem?_set_self hj']; rfl
    rw [e2] at hu
    exact World.rangeAt_setCells_same w b _ (K.f y) (by rw [hlen]; exact ht) i' u hu
  · have e2 : (xs.set j y).getD j' K.d = xs.getD j' K.d := by rw [List.getD_eq_getElem?_getD, List.getD_eq_getElem?_getD, List.getElem?_set_ne (Ne.symm e)]
    rw [e2] at hu
    have h1 := h j' i' u hj' hu
    have := World.rangeAt_setCells_apart (w := w) (b' := b) (o' := off + j' * K.k + i') (cs := [u]) (fun k v hv => by
      have hk : k = 0 := by have := (List.getElem?_eq_some_iff.1 hv).1; simpa using this
      subst hk
      simp at hv
      subst hv
      exact h1) b (off + j * K.k) (K.f y) (by
        rw [hlen]
        rcases Nat.lt_or_gt_of_ne e with h | h
        · have := Nat.mul_le_mul_right K.k (show j' + 1 ≤ j from h)
          rw [Nat.add_mul, Nat.one_mul] at this
          exact Or.inr (Or.inl (by simp; omega))
        · have := Nat.mul_le_mul_right K.k (show j + 1 ≤ j' from h)
          rw [Nat.add_mul, Nat.one_mul] at this
          exact Or.inr (Or.inr (by omega))) 0 _ rfl
    exact this
theorem set4_ev (W : World) (g o : Nat) (t p b v : Int) : W.setCells g o (KE.f ⟨t, p, b, v⟩) = (((W.setCell ⟨g, o, none⟩ (.int .i64 t)).setCell ⟨g, o + 1, none⟩ (.int .i64 p)).setCell ⟨g, o + 2, none⟩ (.int .i64 b)).setCell ⟨g, o + 3, none⟩ (.int .i64 v) := rfl
theorem swap_isl {base : Nat} {Wt : World} {g n0 cg i : Nat} {l : List Ev} {tk op ob vl tk2 op2 ob2 vl2 : Int} (hg : Own KE base Wt (.slice (some ⟨g, 0, none⟩) n0 cg) l) (hln : l.length = n0) (hi : i + 1 < n0) (ex : l.getD i ev0 = ⟨tk, op, ob, vl⟩) (ex2 : l.getD (i + 1) ev0 = ⟨tk2, op2, ob2, vl2⟩) :
    IsL KE ((((((((Wt.setCell ⟨g, i * 4, none⟩ (.int .i64 tk2)).setCell ⟨g, i * 4 + 1, none⟩ (.int .i64 op2)).setCell ⟨g, i * 4 + 2, none⟩ (.int .i64 ob2)).setCell ⟨g, i * 4 + 3, none⟩ (.int .i64 vl2)).setCell ⟨g, (i + 1) * 4, none⟩ (.int .i64 tk)).setCell ⟨g, (i + 1) * 4 + 1, none⟩ (.int .i64 op)).setCell ⟨g, (i + 1) * 4 + 2, none⟩ (.int .i64 ob)).setCell ⟨g, (i + 1) * 4 + 3, none⟩ (.int .i64 vl)).drew (.slice (some ⟨g, 0, none⟩) n0 cg) (swapL l i) := by
  have fr := evs_free hg
  obtain ⟨gb, go_, eg, hgb, hgl⟩ := hg.isl.opens ke hln (by omega)
  cases eg
  have hth : ∀ j, j < n0 → Wt.there g (0 + j * KE.k) KE.k := fun j hj k hk => by
    have h1 := hgl j k ((KE.f (l.getD j KE.d))[k]'(by rw [ke.len]; exact hk)) (by omega) (List.getElem?_eq_getElem _)
    exact ⟨by rw [h1]; rfl, fr _⟩
  have h1 := Lies.put ke hgl (j := i) (by omega) (hth i (by omega)) ⟨tk2, op2, ob2, vl2⟩
  have h2 := Lies.put ke h1 (j := i + 1) (by rw [List.length_set]; omega) (World.there_setCells (hth (i + 1) (by omega)) _ _ _) ⟨tk, op, ob, vl⟩
  have e0 : (l.set i ⟨tk2, op2, ob2, vl2⟩).set (i + 1) ⟨tk, op, ob, vl⟩ = swapL l i := by unfold swapL; rw [ex, ex2]
  rw [e0, Nat.zero_add, Nat.zero_add, show KE.k = 4 from rfl, set4_ev, set4_ev] at h2
  have h3 := h2.keep (drew_at _ g)
  exact Lies.isl ke h3 (by rw [swap_len]; exact hln) hg.isl.fits
theorem swap_below {w Wt : World} {g i : Nat} (h : Below w.heap.size w Wt) (hg : w.heap.size ≤ g) (t0 t1 t2 t3 t4 t5 t6 t7 : Int) :
    Below w.heap.size w ((((((((Wt.setCell ⟨g, i * 4, none⟩ (.int .i64 t0)).setCell ⟨g, i * 4 + 1, none⟩ (.int .i64 t1)).setCell ⟨g, i * 4 + 2, none⟩ (.int .i64 t2)).setCell ⟨g, i * 4 + 3, none⟩ (.int .i64 t3)).setCell ⟨g, (i + 1) * 4, none⟩ (.int .i64 t4)).setCell ⟨g, (i + 1) * 4 + 1, none⟩ (.int .i64 t5)).setCell ⟨g, (i + 1) * 4 + 2, none⟩ (.int .i64 t6)).setCell ⟨g, (i + 1) * 4 + 3, none⟩ (.int .i64 t7)).drew :=
  (((((((((h.setCell hg _).setCell hg _).setCell hg _).setCell hg _).setCell hg _).setCell hg _).setCell hg _).setCell hg _).drew)

set_option maxRecDepth 100000 in
set_option maxHeartbeats 4000000 in
theorem swq_x (w Wt : World) (n0 c0 : Nat) (a1 : Option Addr) (n1 c1 : Nat) (tb tof : Nat) (l : List Ev) (hs : List Int) (hl : IsL KE w (.slice (some ⟨tb, tof, none⟩) n0 c0) l) (hh : IsL KI w (.slice a1 n1 c1) hs) (h : n0 ≤ 200) (i : Nat) (hi : i + 1 < n0) (tk op ob vl tk2 op2 ob2 vl2 : Int) (ex : l.getD i ev0 = ⟨tk, op, ob, vl⟩) (ex2 : l.getD (i + 1) ev0 = ⟨tk2, op2, ob2, vl2⟩) (A B g cg : Nat) (hA : Wt.heap[A]? = some (.cells #[.int .i64 tk, .int .i64 op, .int .i64 ob, .int .i64 vl] 41 (0, 0))) (hB : Wt.heap[B]? = some (.cells #[.int .i64 tk2, .int .i64 op2, .int .i64 ob2, .int .i64 vl2] 41 (0, 0))) (hAg : A < g) (hBg : B < g) (base : Nat) (hg : Own KE base Wt (.slice (some ⟨g, 0, none⟩) n0 cg) l) (hX : Below w.heap.size w Wt) (hwg : w.heap.size ≤ g) (hgd : GoodT hs l) (hea : Easy (l.getD i ev0)) (heb : Easy (l.getD (i + 1) ev0)) (hne : (l.getD i ev0).task ≠ (l.getD (i + 1) ev0).task)
    {s3 s4 s5 s9 s11 s12 s13 s14 s15 s16 s17 s18 s19 s20 s21 s22 s23 s24 s25 s26 s27 s28 s29 s30 s31 s32 s33 s34 s35 s36 s37 s38 s39 s40 s41 s42 s43 s44 s45 s46 s47 s48 s49 s50 s51 s52 s53 s54 s55 s56 s57 s58 s59 s60 s61 s62 s63 s64 s65 s66 s67 s68 s69 s70 s71 s72 s73 s74 s75 s76 s77 s78 s79 s80 s81 s82 s83 s84 s85 s86 s87 s88 s89 s90 s91 s92 s93 s94 s95 s96 s97 s98 s99 s100 s101 s102 s103 s104 s105 s106 s107 s108 s109 s110 s111 s112 s113 s114 s115 s116 s117 s118 s119 s120 s121 s122 s123 s124 s125 s126 s127 s128 s129 s130 s131 s132 : Value} (K : Act → World → Prop) (x z : Code) (hK : ∀ a w', z.wp Try.prog (bodyPost Try.prog Try.f6 fun e w' => e = .returned (.bool true) ∧ Below w.heap.size w w') a w' → K a w') (hcut : Try.f6.body.bind (cutAt 10) = some (x, z)) :
    x.wp Try.prog (Exit.then K (bodyPost Try.prog Try.f6 fun e w' => e = .returned (.bool true) ∧ Below w.heap.size w w')) { tmps := (.slice (some ⟨tb, tof, none⟩) n0 c0 :: .slice a1 n1 c1 :: .int .i64 (i : Int) :: s3 :: s4 :: s5 :: .bool false :: .pointer (some ⟨A, 0, none⟩) :: .pointer (some ⟨B, 0, none⟩) :: s9 :: .slice (some ⟨g, 0, none⟩) n0 cg :: s11 :: s12 :: s13 :: s14 :: s15 :: s16 :: s17 :: s18 :: s19 :: s20 :: s21 :: s22 :: s23 :: s24 :: s25 :: s26 :: s27 :: s28 :: s29 :: s30 :: s31 :: s32 :: s33 :: s34 :: s35 :: s36 :: s37 :: s38 :: s39 :: s40 :: s41 :: s42 :: s43 :: s44 :: s45 :: s46 :: s47 :: s48 :: s49 :: s50 :: s51 :: s52 :: s53 :: s54 :: s55 :: s56 :: s57 :: s58 :: s59 :: s60 :: s61 :: s62 :: s63 :: s64 :: s65 :: s66 :: s67 :: s68 :: s69 :: s70 :: s71 :: s72 :: s73 :: s74 :: s75 :: s76 :: s77 :: s78 :: s79 :: s80 :: s81 :: s82 :: s83 :: s84 :: s85 :: s86 :: s87 :: s88 :: s89 :: s90 :: s91 :: s92 :: s93 :: s94 :: s95 :: s96 :: s97 :: s98 :: s99 :: s100 :: s101 :: s102 :: s103 :: s104 :: s105 :: s106 :: s107 :: s108 :: s109 :: s110 :: s111 :: s112 :: s113 :: s114 :: s115 :: s116 :: s117 :: s118 :: s119 :: s120 :: s121 :: s122 :: s123 :: s124 :: s125 :: s126 :: s127 :: s128 :: s129 :: s130 :: s131 :: s132 :: []).toArray, defers := [] } Wt := by
  have hcc : Try.f6.body.bind (cutAt 10) = some (_, _) := rfl
  rw [hcc] at hcut
  cases hcut
  clear hcc
  have HX := hide hX
  have HOG := hide hg
  have i1 : (0 : Int) ≤ (i : Int) := by omega
  have i2 : (i : Int) < (n0 : Int) := by omega
  have i3 : (0 : Int) ≤ (i : Int) + 1 := by omega
  have i4 : (i : Int) + 1 < (n0 : Int) := by omega
  have wi : IntKind.i64.wrap ((i : Int) + 1) = (i : Int) + 1 := wrapi (by omega) (by omega)
  have hln := hl.len
  obtain ⟨gb, go_, eg, hgb, hgl⟩ := hg.isl.opens ke hln (by omega)
  cases eg
  have fr := evs_free hg
  obtain ⟨p0, p1, p2, p3⟩ := hgl.ev (j := i) (by omega) ex
  obtain ⟨q0, q1, q2, q3⟩ := hgl.ev (j := i + 1) (by omega) ex2
  have fp0 := fr (0 + i * 4); have fp1 := fr (0 + i * 4 + 1); have fp2 := fr (0 + i * 4 + 2); have fp3 := fr (0 + i * 4 + 3)
  have fq0 := fr (0 + (i + 1) * 4); have fq1 := fr (0 + (i + 1) * 4 + 1); have fq2 := fr (0 + (i + 1) * 4 + 2); have fq3 := fr (0 + (i + 1) * 4 + 3)
  rw [Nat.zero_add] at p0 p1 p2 p3 q0 q1 q2 q3 fp0 fp1 fp2 fp3 fq0 fq1 fq2 fq3
  obtain ⟨⟨a0_, a1_, a2_, a3_⟩, -, al⟩ := block4 hA
  obtain ⟨⟨b0_, b1_, b2_, b3_⟩, -, bl⟩ := block4 hB
  have u1 : A ≠ g := by omega
  have u2 : B ≠ g := by omega
  have u3 : g ≠ A := by omega
  have u4 : g ≠ B := by omega
  go_wp2_with fail
  go_region
  obtain ⟨W7, e7⟩ : ∃ X, ((((((((Wt.setCell ⟨g, i * 4, none⟩ (.int .i64 tk2)).setCell ⟨g, i * 4 + 1, none⟩ (.int .i64 op2)).setCell ⟨g, i * 4 + 2, none⟩ (.int .i64 ob2)).setCell ⟨g, i * 4 + 3, none⟩ (.int .i64 vl2)).setCell ⟨g, (i + 1) * 4, none⟩ (.int .i64 tk)).setCell ⟨g, (i + 1) * 4 + 1, none⟩ (.int .i64 op)).setCell ⟨g, (i + 1) * 4 + 2, none⟩ (.int .i64 ob)).setCell ⟨g, (i + 1) * 4 + 3, none⟩ (.int .i64 vl)).drew = X := ⟨_, rfl⟩
  have h7 := swap_isl hg hln hi ex ex2
  have hx7 := swap_below hX hwg tk2 op2 ob2 vl2 tk op ob vl (g := g) (i := i)
  rw [e7] at h7 hx7 ⊢
  have HL7 := hide h7
  have HX7 := hide hx7
  clear h7 hx7 e7 a0_ a1_ a2_ a3_ al b0_ b1_ b2_ b3_ bl p0 p1 p2 p3 q0 q1 q2 q3 fp0 fp1 fp2 fp3 fq0 fq1 fq2 fq3 fr hX hA hB hg HOG HX hgl hgb
  obtain ⟨m, hm⟩ : ∃ m : Nat, lastL l = (m : Int) := ⟨(lastL l).toNat, by have := (hgd.last l.length (Nat.le_refl _)).1; rw [List.take_length] at this; omega⟩
  have hm2 : lastL (swapL l i) = (m : Int) := by rw [last_swap l (by omega) hea heb]; exact hm
  have hgd2 := good_swap hgd (i := i) (by omega)
  have hmm : m ≤ 64 := by
    have h0 := (hgd.last l.length (Nat.le_refl _)).2
    rw [List.take_length] at h0
    omega
  have hm0 : 0 < m := by
    have h1 := last_task l (j := i) (by omega)
    have h2 := (hgd.ev (j := i) (by omega)).t1
    omega
  have HCF : Hid (∀ W, Below w.heap.size w W → Calls Try.prog 13 #[.slice (some ⟨tb, tof, none⟩) n0 c0, .slice a1 n1 c1] W fun e w' => ∃ G, e = .returned (.tuple #[.slice (some ⟨G, 0, none⟩) n0 n0, .agg #[.int .i64 0, .int .i64 0]]) ∧ Rows2 (W.heap.size + 1) w' G n0 (rowL hs l m) m n0 ∧ W.heap.size + 1 ≤ G ∧ Below W.heap.size W w') := fun W hW => clocks_good W _ n0 c0 a1 n1 c1 l hs (hl.below hW) (hh.below hW) hgd m hm
  have HCG : Hid (∀ W, Below w.heap.size w W → Below W7.heap.size W7 W → Calls Try.prog 13 #[.slice (some ⟨g, 0, none⟩) n0 cg, .slice a1 n1 c1] W fun e w' => ∃ G, e = .returned (.tuple #[.slice (some ⟨G, 0, none⟩) n0 n0, .agg #[.int .i64 0, .int .i64 0]]) ∧ Rows2 (W.heap.size + 1) w' G n0 (rowL hs (swapL l i) m) m n0 ∧ W.heap.size + 1 ≤ G ∧ Below W.heap.size W w') := fun W hW hW2 => clocks_good W _ n0 cg a1 n1 c1 (swapL l i) hs ((unhide HL7).below hW2) (hh.below hW) hgd2 m hm2
  have HSC : Hid (∀ x, x < n0 → rowL hs (swapL l i) m x = rowL hs l m (sw i x)) := fun x hx => by
    unfold rowL
    rw [swap_ck hs l (show i + 1 < l.length by omega) hea heb hne (by omega)]
  clear hl hh hgd hgd2 hea heb hne hm hm2 HL7 ex ex2
  go_upto_region 12 with (go_at_call 13; (with_reducible refine Calls.mono (unhide HCF _ (unhide HX7)) ?_); rintro e w8 ⟨G1, rfl, hr8, hg8, hb8⟩; have HX8 := hide (Below.next (unhide HX7) hb8 (Nat.le_refl _)); have HV8 := hide hb8; have HR8 := hide hr8; clear hr8 hg8 hb8)
  have HX9 := hide ((unhide HX8).alloc (unhide HX8).size (.cells #[.int .i64 0, .int .i64 0] 28)); have HF9 := hide (new_block w8 (.cells #[.int .i64 0, .int .i64 0] 28)); have HR9 := hide ((unhide HR8).below ((Below.refl _ _).alloc (Nat.le_refl _) (.cells #[.int .i64 0, .int .i64 0] 28))); have HV9 := hide ((unhide HV8).alloc (unhide HV8).size (.cells #[.int .i64 0, .int .i64 0] 28))
  obtain ⟨F1, eF1⟩ : ∃ X, w8.heap.size = X := ⟨_, rfl⟩
  obtain ⟨W9, e9⟩ : ∃ X, w8.alloc (.cells #[.int .i64 0, .int .i64 0] 28) = X := ⟨_, rfl⟩
  rw [e9] at HX9 HR9 HV9; rw [eF1, e9] at HF9; rw [eF1, e9]
  clear e9 eF1 HX8 HR8 HV8 HX7 HCF
  go_upto_region 13 with (go_at_call 13; (with_reducible refine Calls.mono (unhide HCG _ (unhide HX9) (unhide HV9)) ?_); rintro e w10 ⟨G2, rfl, hr10, hg10, hb10⟩; have HX10 := hide (Below.next (unhide HX9) hb10 (Nat.le_refl _)); have HF10 := hide (keep_below (unhide HF9) hb10); have HW10 := hide hb10; have HS10 := hide hr10; have HGG := hide hg10; clear hr10 hg10 hb10)
  have HX11 := hide ((unhide HX10).alloc (unhide HX10).size (.cells #[.int .i64 0, .int .i64 0] 28)); have HE11 := hide (new_block w10 (.cells #[.int .i64 0, .int .i64 0] 28)); have HF11 := hide (keep_alloc (unhide HF10) (.cells #[.int .i64 0, .int .i64 0] 28)); have HW11 := hide ((unhide HW10).alloc (unhide HW10).size (.cells #[.int .i64 0, .int .i64 0] 28)); have HS11 := hide ((unhide HS10).below ((Below.refl _ _).alloc (Nat.le_refl _) (.cells #[.int .i64 0, .int .i64 0] 28)))
  obtain ⟨F2, eF2⟩ : ∃ X, w10.heap.size = X := ⟨_, rfl⟩
  obtain ⟨W11, e11⟩ : ∃ X, w10.alloc (.cells #[.int .i64 0, .int .i64 0] 28) = X := ⟨_, rfl⟩
  rw [e11] at HX11 HW11 HS11 HF11; rw [eF2, e11] at HE11; rw [eF2, e11]
  obtain ⟨r0, r1, rf0, rf1, rl⟩ := block2 (unhide HE11)
  obtain ⟨t0, t1, tf0, tf1, tl⟩ := block2 (unhide HF11)
  have hsw := (unhide HS11).swap (f' := rowL hs l m) (i := i) (j := i + 1) (by omega) (by omega) (by omega) hm0 (by rw [unhide HSC (i + 1) (by omega), sw_s]) (by rw [unhide HSC i (by omega), sw_i]) (fun k hk h1 h2 => by rw [unhide HSC k hk, show sw i k = k by simp [sw, h1, h2]])
  obtain ⟨vi, vj, h1, h2, ⟨d1, d2, d3, rfl⟩, ⟨d4, d5, d6, rfl⟩, h3⟩ := hsw
  have g1 := ((unhide HS11).there i (by omega)).2
  have g2 := ((unhide HS11).there (i + 1) (by omega)).2
  rw [Nat.zero_add] at g1 g2
  have HSW := hide h3
  clear h3 HSC eF2 e11 HX10 HF10 HW10 HS10
  go_upto_region 15 with fail
  go_region
  obtain ⟨W15, e15⟩ : ∃ X, ((W11.setCell ⟨G2, i, none⟩ (.slice d4 d5 d6)).setCell ⟨G2, i + 1, none⟩ (.slice d1 d2 d3)).drew = X := ⟨_, rfl⟩
  have h15 := (unhide HSW).below ((Below.refl _ _).drew)
  have hG2 : W9.heap.size ≤ G2 := Nat.le_of_succ_le (unhide HGG)
  have hx15 := (below_set (below_set (unhide HW11) hG2 (i := i) (.slice d4 d5 d6)) hG2 (i := i + 1) (.slice d1 d2 d3)).drew
  rw [e15] at h15 hx15 ⊢
  have HX15 := hide (Below.next (unhide HX9) hx15 (Nat.le_refl _))
  have HLS := hide (lists_same W15 _ _ G1 G2 n0 m (rowL hs l m) ((unhide HR9).below hx15) h15 (by omega) (fun x hx => by rw [rowL_len]; omega))
  clear h15 hx15 e15 r0 r1 rf0 rf1 rl t0 t1 tf0 tf1 tl h1 h2 g1 g2
  go_wp2_with (go_at_call 21; (with_reducible refine Calls.mono (unhide HLS) ?_); rintro e w16 ⟨rfl, hb16⟩; have HX16 := hide (Below.next (unhide HX15) hb16 (Nat.le_refl _)); clear hb16)
  go_ret
  exact ⟨rfl, unhide HX16⟩
end Go.Proofs.Ytbnmeeabpjmcoaa
