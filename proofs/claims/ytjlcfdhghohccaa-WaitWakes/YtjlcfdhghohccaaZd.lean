/-
  taskmilllaw.WaitWakes where nothing is wrong.
-/
import Derived.Test.YtjlcfdhghohccaaZc
namespace Go.Proofs.Ytjlcfdhghohccaa
open Go.RowKit

set_option maxRecDepth 100000 in
set_option maxHeartbeats 4000000 in
theorem wakes_ok (w : World) (a : Option Addr) (n c : Nat) (x y k : Int) (ls : List Ln) (h : Arg w a n c ls) (hn : n ≤ 6000) (hm : (waitL ls).length ≤ 300) (hg : Good ls) : Calls Try.prog 4 #[.slice a n c, .int .i64 x, .int .i64 y, .int .i64 k] w fun e w' => e = .returned (.bool true) ∧ Below w.heap.size w w' := by
  have hnot : ∀ (x : Bool) (w : World), (Op.unary .not (.bool x)).run Try.prog w = .ok (.bool (!x)) w := fun _ _ => rfl
  have hl := h.rd.len
  have HVS : Hid (∀ W, Below w.heap.size w W → Calls Try.prog 9 #[.slice a n c] W fun e w' => e = .returned (.bool false) ∧ Below W.heap.size W w') := fun W hW => by
    have := vast_bool W a n c ls hl (h.rd.below hW) h.max h.each
    rw [decide_eq_false (by omega)] at this
    refine this.mono ?_
    rintro e w' ⟨h1, h2⟩
    exact ⟨h1, by rw [h2]; exact Below.refl _ _⟩
  obtain ⟨q, eq⟩ : ∃ q, (waitL ls).length = q := ⟨_, rfl⟩
  have HWA : Hid (∀ W, Below w.heap.size w W → Calls Try.prog 17 #[.slice a n c] W fun e w' => ∃ a' c', e = .returned (.slice a' q c') ∧ Below W.heap.size W w') := fun W hW => by
    have := waiting_any W a n c ls hl (h.rd.below hW) (by omega) (by omega)
    rw [eq] at this
    exact this.mono fun e w' ⟨a', c', h1, _, h3⟩ => ⟨a', c', h1, h3⟩
  have HOL : Hid (∀ W, Below w.heap.size w W → Calls Try.prog 10 #[.slice a n c] W fun e w' => ∃ a' c', e = .returned (.slice a' n c') ∧ IsLs w' (.slice a' n c') ls ∧ Below W.heap.size W w') := fun W hW => ownlines_any W a n c ls hl (h.rd.below hW) (by omega) (by omega)
  have HWK : Hid (∀ W a' c', IsLs W (.slice a' n c') ls → Calls Try.prog 23 #[.slice a' n c', .int .i64 x, .int .i64 k] W fun e w' => ∃ v1 v2, e = .returned (.tuple #[v1, v2, .agg #[.int .i64 0, .int .i64 0]]) ∧ (∃ a1 c1 a2 c2, v1 = .slice a1 (takenL x k ls).length c1 ∧ v2 = .slice a2 (firstL x k ls).length c2 ∧ FreshL W.heap.size w' v1 (takenL x k ls) ∧ Own W.heap.size w' v2 (firstL x k ls)) ∧ Below W.heap.size W w') := fun W a' c' hi => (wake_ok W a' n c' x k ls hi hg).mono fun e w' ⟨a1, c1, a2, c2, h1, h2, h3, h4⟩ => ⟨_, _, h1, ⟨a1, c1, a2, c2, rfl, rfl, h2, h3⟩, h4⟩
  have HMV : Hid (∀ W a' c', IsLs W (.slice a' n c') ls → Calls Try.prog 24 #[.slice a' n c', .int .i64 x, .int .i64 y, .int .i64 k] W fun e w' => ∃ v1, e = .returned (.tuple #[v1, .agg #[.int .i64 0, .int .i64 0]]) ∧ (∃ a1 c1, v1 = .slice a1 (moveL x y k ls).length c1 ∧ FreshL W.heap.size w' v1 (moveL x y k ls)) ∧ Below W.heap.size W w') := fun W a' c' hi => (move_ok W a' n c' x y k ls hi hg).mono fun e w' ⟨a1, c1, h1, h2, h3⟩ => ⟨_, h1, ⟨a1, c1, rfl, h2⟩, h3⟩
  have HLF : Hid (∀ W, Below w.heap.size w W → Calls Try.prog 13 #[.slice a n c] W fun e w' => e = .returned (.agg #[.int .i64 0, .int .i64 0]) ∧ Below W.heap.size W w') := fun W hW => by
    have := lf_any W a n c ls (h.rd.below hW) h.max h.each
    rw [good_to hg] at this
    exact this
  have HAT : Hid (∀ W, Below w.heap.size w W → Calls Try.prog 21 #[.slice a n c, .int .i64 x] W fun e w' => ∃ a' c', e = .returned (.slice a' (tasksL x ls).length c') ∧ IsInts w' (.slice a' (tasksL x ls).length c') (tasksL x ls) ∧ w' = W) := fun W hW => by
    have := atline_any W a n c x ls hl (h.rd.below hW) (by omega)
    rw [atL_tasks hg.rise] at this
    exact this
  obtain ⟨T, eT⟩ : ∃ T, (tasksL x ls) = T := ⟨_, rfl⟩
  rw [eT] at HAT
  obtain ⟨m, em⟩ : ∃ m, T.length = m := ⟨_, rfl⟩
  rw [em] at HAT
  have hk := takeN_le k m
  have hmm : m ≤ 300 := by have := tasksL_le x ls; rw [eT, em] at this; omega
  have e1 : takenL x k ls = setL x (T.drop (takeN k m)) ls := by unfold takenL; rw [eT, em]
  have e2 : firstL x k ls = T.take (takeN k m) := by unfold firstL; rw [eT, em]
  have e3 : moveL x y k ls = setL y (tasksL y (setL x (T.drop (takeN k m)) ls) ++ T.take (takeN k m)) (setL x (T.drop (takeN k m)) ls) := by unfold moveL; rw [e1, e2]
  obtain ⟨hgt, hst⟩ := taken_good hg x k
  have hgl := hgt.len
  have hgf := hst.length_le
  have hmvl : (moveL x y k ls).length ≤ 100000 := by have := setL_length (x := y) (zs := tasksL y (takenL x k ls) ++ firstL x k ls) (ls := takenL x k ls); unfold moveL; omega
  have hmvw : (waitL (moveL x y k ls)).length ≤ 100000 := by
    have h1 := waitL_set y (tasksL y (takenL x k ls) ++ firstL x k ls) (takenL x k ls)
    have h2 := waitL_parts y (takenL x k ls)
    have h3 := congrArg List.length h1
    have h4 := congrArg List.length h2
    simp only [List.length_append] at h3 h4
    have h5 : (firstL x k ls).length ≤ 300 := by rw [e2, List.length_take]; omega
    unfold moveL
    omega
  have HTY : Hid ((tasksL y (setL x (T.drop (takeN k m)) ls)).length ≤ 10000) := by
    show _ ≤ _
    have := tasksL_le y (takenL x k ls)
    rw [e1] at this hgf
    omega
  have HFL : Hid ((firstL x k ls).length = takeN k m) := by show _ = _; rw [e2, List.length_take]; omega
  have HLA1 : Hid (∀ W L1 Bb a1 c1 a2 c2, IsLs W (.slice a1 (takenL x k ls).length c1) (takenL x k ls) → IsLs W (.slice a n c) ls → IsInts W (.slice a2 (m - takeN k m) c2) (T.drop (takeN k m)) → W.heap[L1]? = some (.cells #[.slice a n c] 22 (0, 0)) → W.heap[L1 + 1]? = some (.cells #[.int .i64 x] 3 (0, 0)) → W.heap[Bb]? = some (.cells #[.slice a2 (m - takeN k m) c2] 34 (0, 0)) → Calls Try.prog 18 #[.slice a1 (takenL x k ls).length c1, .agg #[.int .i64 0, .int .i64 0], .agg #[.int .i64 0, .int .i64 0], .func (.func 27) #[] #[.pointer (some ⟨L1, 0, none⟩), .pointer (some ⟨L1 + 1, 0, none⟩), .pointer (some ⟨Bb, 0, none⟩)]] W fun e w' => e = .returned (.bool true) ∧ Below W.heap.size W w') := fun W L1 Bb a1 c1 a2 c2 hi h2 h3 q1 q2 q3 =>
    linesas_ok W a1 _ c1 _ rfl hi (by omega) (by omega) 27 enters27 _ (fun W1 hW1 => by
      have := wakes27_any W1 L1 (L1 + 1) Bb a n c x ls a2 (m - takeN k m) c2 (T.drop (takeN k m)) (h2.below hW1) hg.rise (by omega) (h3.below hW1) (keep_below q1 hW1) (keep_below q2 hW1) (keep_below q3 hW1)
      rw [← e1] at this
      exact this)
  have HLA2 : Hid (∀ W L1 Bb Cb a1 c1 a2 c2 a3 c3, IsLs W (.slice a1 (moveL x y k ls).length c1) (moveL x y k ls) → IsLs W (.slice a n c) ls → IsInts W (.slice a2 (m - takeN k m) c2) (T.drop (takeN k m)) → IsInts W (.slice a3 (takeN k m) c3) (T.take (takeN k m)) → W.heap[L1]? = some (.cells #[.slice a n c] 22 (0, 0)) → W.heap[L1 + 1]? = some (.cells #[.int .i64 x] 3 (0, 0)) → W.heap[L1 + 2]? = some (.cells #[.int .i64 y] 3 (0, 0)) → W.heap[Bb]? = some (.cells #[.slice a2 (m - takeN k m) c2] 34 (0, 0)) → W.heap[Cb]? = some (.cells #[.slice a3 (takeN k m) c3] 34 (0, 0)) → Calls Try.prog 18 #[.slice a1 (moveL x y k ls).length c1, .agg #[.int .i64 0, .int .i64 0], .agg #[.int .i64 0, .int .i64 0], .func (.func 28) #[] #[.pointer (some ⟨L1, 0, none⟩), .pointer (some ⟨L1 + 1, 0, none⟩), .pointer (some ⟨Bb, 0, none⟩), .pointer (some ⟨L1 + 2, 0, none⟩), .pointer (some ⟨Cb, 0, none⟩)]] W fun e w' => e = .returned (.bool true) ∧ Below W.heap.size W w') := fun W L1 Bb Cb a1 c1 a2 c2 a3 c3 hi h2 h3 h4 q1 q2 q3 q4 q5 =>
    linesas_ok W a1 _ c1 _ rfl hi hmvl hmvw 28 enters28 _ (fun W1 hW1 => by
      have := wakes28_any W1 L1 (L1 + 1) Bb (L1 + 2) Cb a n c x y ls a2 (m - takeN k m) c2 (T.drop (takeN k m)) a3 (takeN k m) c3 (T.take (takeN k m)) (h2.below hW1) hg.rise (by omega) (h3.below hW1) (h4.below hW1) (by omega) (unhide HTY) (keep_below q1 hW1) (keep_below q2 hW1) (keep_below q4 hW1) (keep_below q3 hW1) (keep_below q5 hW1)
      rw [← e3] at this
      exact this)
  have HIS : Hid (∀ W v1 v2, IsInts W v1 (firstL x k ls) → IsInts W v2 (T.take (takeN k m)) → Calls Try.prog 26 #[v1, v2] W fun e w' => e = .returned (.bool true) ∧ Below W.heap.size W w') := fun W v1 v2 h1 h2 => by
    rw [e2] at h1
    exact ints_same W v1 v2 _ h1 h2 (by unfold maxLen; rw [List.length_take]; omega)
  obtain ⟨R1, eR1⟩ : ∃ R, takenL x k ls = R := ⟨_, rfl⟩
  obtain ⟨R2, eR2⟩ : ∃ R, moveL x y k ls = R := ⟨_, rfl⟩
  obtain ⟨F1, eF1⟩ : ∃ R, firstL x k ls = R := ⟨_, rfl⟩
  rw [eR1, eF1] at HWK
  rw [eR2] at HMV HLA2
  rw [eR1] at HLA1
  rw [eF1] at HIS HFL
  obtain ⟨n1, en1⟩ : ∃ R, R1.length = R := ⟨_, rfl⟩
  obtain ⟨n2, en2⟩ : ∃ R, R2.length = R := ⟨_, rfl⟩
  rw [en1] at HWK HLA1
  rw [en2] at HMV HLA2
  obtain ⟨K, eK⟩ : ∃ K, takeN k m = K := ⟨_, rfl⟩
  rw [unhide HFL, eK] at HWK
  rw [eK] at HLA1 HLA2 HIS hk
  have hfl := unhide HFL
  rw [eK] at hfl
  have HFK := hide hfl
  clear hfl HFL
  have HWO : Hid (∀ W a1 c1, IsInts W (.slice a1 m c1) T → Calls Try.prog 25 #[.slice a1 m c1, .int .i64 k] W fun e w' => ∃ a1 c1 a2 c2, e = .returned (.tuple #[.slice a1 K c1, .slice a2 (m - K) c2]) ∧ IsInts w' (.slice a1 K c1) (T.take K) ∧ IsInts w' (.slice a2 (m - K) c2) (T.drop K) ∧ Below W.heap.size W w') := fun W a1 c1 hi => by
    have := woken_any W a1 m c1 k T hi
    rw [eK] at this
    exact this
  have hq3 : ¬ (300 : Int) < (q : Int) := by omega
  have HRD : Hid (∀ W, Below w.heap.size w W → IsLs W (.slice a n c) ls) := fun W hW => h.rd.below hW
  obtain ⟨b1, b2, b3, hb0, hs0⟩ := three_new w (.cells #[.slice a n c] 22) (.cells #[.int .i64 x] 3) (.cells #[.int .i64 y] 3)
  have HB0 := hide hb0; have B1 := hide b1; have B2 := hide b2; have B3 := hide b3
  clear b1 b2 b3 hb0 hs0 h hl eq hm hn eT em eK e1 e2 e3 hgt hst hgl hgf hmvl hmvw HTY eR1 eR2 eF1 en1 en2 hg
  go_enter Try.func4, Try.ntmps4
  go_upto_region 1 with fail
  obtain ⟨W0, eW0⟩ : ∃ W, ((w.alloc (.cells #[.slice a n c] 22)).alloc (.cells #[.int .i64 x] 3)).alloc (.cells #[.int .i64 y] 3) = W := ⟨_, rfl⟩
  rw [eW0] at HB0 B1 B2 B3
  rw [eW0]
  clear eW0
  have HF : Hid (∀ W, Below W0.heap.size W0 W → W.cell? ⟨w.heap.size, 0, none⟩ = some (.slice a n c) ∧ W.cell? ⟨w.heap.size + 1, 0, none⟩ = some (.int .i64 x) ∧ W.cell? ⟨w.heap.size + 2, 0, none⟩ = some (.int .i64 y)) := fun W hW => ⟨(block1 (keep_below (unhide B1) hW)).1, (block1 (keep_below (unhide B2) hW)).1, (block1 (keep_below (unhide B3) hW)).1⟩
  have HW : Hid (∀ W, Below W0.heap.size W0 W → Below w.heap.size w W) := fun W hW => Below.next (unhide HB0) hW (Nat.le_refl _)
  go_upto_region 5 with (first | (go_at_call 8; refine (begun_any _).mono ?_; rintro e w1 ⟨rfl, hb1⟩; have HX1 := hide hb1; obtain ⟨q0, _⟩ := unhide HF w1 hb1; clear hb1) | (go_at_call 9; refine (unhide HVS _ (unhide HW _ (unhide HX1))).mono ?_; rintro e w2 ⟨rfl, hb2⟩; have HX2 := hide (Below.next (unhide HX1) hb2 (Nat.le_refl _)); clear q0 hb2; obtain ⟨q0, _⟩ := unhide HF w2 (unhide HX2)) | (go_at_call 17; refine (unhide HWA _ (unhide HW _ (unhide HX2))).mono ?_; rintro e w3 ⟨a3, c3, rfl, hb3⟩; have HX3 := hide (Below.next (unhide HX2) hb3 (Nat.le_refl _)); clear q0 hb3))
  have HB3 := hide (keep_below (unhide B1) (unhide HX3)); have HB4 := hide (keep_below (unhide B2) (unhide HX3)); have HB5 := hide (keep_below (unhide B3) (unhide HX3))
  refine wake_stmt w.heap.size n c a x y k 0 0 ls (fun base w v1 v2 => ∃ a1 c1 a2 c2, v1 = .slice a1 n1 c1 ∧ v2 = .slice a2 K c2 ∧ FreshL base w v1 R1 ∧ Own base w v2 F1) w3 (unhide HB3) (unhide HB4) (fun base w w' v1 v2 ⟨a1, c1, a2, c2, e1, e2, h1, h2⟩ hb => ⟨a1, c1, a2, c2, e1, e2, h1.below hb, h2.below hb⟩) (fun base w r p q v1 v2 ⟨a1, c1, a2, c2, e1, e2, h1, h2⟩ hr => ⟨a1, c1, a2, c2, e1, e2, h1.set2 hr p q, h2.set2 hr p q⟩) (fun base base' w v1 v2 ⟨a1, c1, a2, c2, e1, e2, h1, h2⟩ hb => ⟨a1, c1, a2, c2, e1, e2, h1.base hb, h2.base hb⟩) (fun W hW => unhide HOL W (unhide HW _ (Below.next (unhide HX3) hW (Nat.le_refl _)))) (unhide HWK) _ _ _ (by kernel_rfl) ?_
  intros
  rename_i T11 v1 v2 W5 hB5 hT11 k11 hz1
  have HX5 := hide (Below.next (unhide HX3) hB5 (Nat.le_refl _))
  have K11 := hide k11
  obtain ⟨a6, c6, a7, c7, rfl, rfl, hf6, ho7⟩ := hz1
  have HF6 := hide hf6; have HO7 := hide ho7
  clear hf6 ho7 k11 hB5
  go_upto_region 6 with fail
  have HB6 := hide (keep_below (unhide B1) (unhide HX5)); have HB7 := hide (keep_below (unhide B2) (unhide HX5)); have HB8 := hide (keep_below (unhide B3) (unhide HX5))
  refine move_stmt w.heap.size n c a x y k 0 0 ls _ _ _ (fun base w v1 => ∃ a1 c1, v1 = .slice a1 n2 c1 ∧ FreshL base w v1 R2) W5 (unhide HB6) (unhide HB7) (unhide HB8) (fun base w w' v1 ⟨a1, c1, e1, h1⟩ hb => ⟨a1, c1, e1, h1.below hb⟩) (fun base w r p q v1 ⟨a1, c1, e1, h1⟩ hr => ⟨a1, c1, e1, h1.set2 hr p q⟩) (fun base base' w v1 ⟨a1, c1, e1, h1⟩ hb => ⟨a1, c1, e1, h1.base hb⟩) (fun W hW => unhide HOL W (unhide HW _ (Below.next (unhide HX5) hW (Nat.le_refl _)))) (unhide HMV) _ _ _ (by kernel_rfl) ?_
  intros
  rename_i T13 v3 W6 hB6 hT13 k13 hz2
  have HX6 := hide (Below.next (unhide HX5) hB6 (Nat.le_refl _))
  have K13 := hide k13; have K11b := hide (keep_below (unhide K11) hB6)
  obtain ⟨a8, c8, rfl, hf8⟩ := hz2
  have HF6b := hide ((unhide HF6).ls.below hB6); have HO7b := hide ((unhide HO7).ints.below hB6); have HF8 := hide hf8.ls
  clear hf8 k13 hB6 HF6 HO7 K11 HWK HMV HOL
  obtain ⟨q0, qx, qy⟩ := unhide HF W6 (unhide HX6)
  go_upto_region 8 with (go_at_call 13; refine (unhide HLF _ (unhide HW _ (unhide HX6))).mono ?_; rintro e w7 ⟨rfl, hb7⟩; have HX7 := hide (Below.next (unhide HX6) hb7 (Nat.le_refl _)); have K11bx := hide (keep_below (unhide K11b) hb7); have K13x := hide (keep_below (unhide K13) hb7); have HF6bx := hide ((unhide HF6b).below hb7); have HO7bx := hide ((unhide HO7b).below hb7); have HF8x := hide ((unhide HF8).below hb7); clear K11b K13 HF6b HO7b HF8; clear hb7 q0 qx qy HLF)
  have K14 := hide (new_block w7 (.cells #[.int .i64 0, .int .i64 0] 27))
  have hb8 : Below w7.heap.size w7 (w7.alloc (.cells #[.int .i64 0, .int .i64 0] 27)) := (Below.refl _ _).alloc (Nat.le_refl _) _
  have HX8 := hide (Below.next (unhide HX7) hb8 (Nat.le_refl _))
  have K11bxy := hide (keep_below (unhide K11bx) hb8); have K13xy := hide (keep_below (unhide K13x) hb8); have HF6bxy := hide ((unhide HF6bx).below hb8); have HO7bxy := hide ((unhide HO7bx).below hb8); have HF8xy := hide ((unhide HF8x).below hb8); clear K11bx K13x HF6bx HO7bx HF8x
  obtain ⟨T14, e14⟩ : ∃ T, w7.heap.size = T := ⟨_, rfl⟩
  obtain ⟨W8, e8⟩ : ∃ W, w7.alloc (.cells #[.int .i64 0, .int .i64 0] 27) = W := ⟨_, rfl⟩
  rw [e14, e8] at K14
  rw [e8] at HX8 K11bxy K13xy HF6bxy HO7bxy HF8xy
  rw [e14, e8]
  clear e14 e8 hb8 HX7
  obtain ⟨t0, t1, _, _, _⟩ := block2 (unhide K11bxy)
  obtain ⟨u0, u1, _, _, _⟩ := block2 (unhide K14)
  obtain ⟨q0, qx, qy⟩ := unhide HF W8 (unhide HX8)
  go_upto_region 11 with (first | (go_at_call 21; (with_reducible refine Calls.mono (unhide HAT _ (unhide HW _ (unhide HX8))) ?_); rintro e _ ⟨a9, c9, rfl, hi9, rfl⟩; have HI9 := hide hi9; clear hi9 HAT) | (go_at_call 25; (with_reducible refine Calls.mono (unhide HWO _ _ _ (unhide HI9)) ?_); rintro e w10 ⟨a10, c10, a11, c11, rfl, hi10, hi11, hb10⟩; have HX10 := hide (Below.next (unhide HX8) hb10 (Nat.le_refl _)); have HI10 := hide hi10; have HI11 := hide hi11; have K11bxyz := hide (keep_below (unhide K11bxy) hb10); have K13xyz := hide (keep_below (unhide K13xy) hb10); have HF6bxyz := hide ((unhide HF6bxy).below hb10); have HO7bxyz := hide ((unhide HO7bxy).below hb10); have HF8xyz := hide ((unhide HF8xy).below hb10); have K14z := hide (keep_below (unhide K14) hb10); clear K11bxy K13xy HF6bxy HO7bxy HF8xy K14; clear hi10 hi11 hb10 q0 qx qy t0 t1 u0 u1 HWO HI9))
  obtain ⟨k15, k16, hb11, _⟩ := two_new w10 (.cells #[.slice a10 K c10] 34) (.cells #[.slice a11 (m - K) c11] 34)
  have K15 := hide k15; have K16 := hide k16
  have HX11 := hide (Below.next (unhide HX10) hb11 (Nat.le_refl _))
  have K11bxyza := hide (keep_below (unhide K11bxyz) hb11); have K13xyza := hide (keep_below (unhide K13xyz) hb11); have HF6bxyza := hide ((unhide HF6bxyz).below hb11); have HO7bxyza := hide ((unhide HO7bxyz).below hb11); have HF8xyza := hide ((unhide HF8xyz).below hb11); have K14za := hide (keep_below (unhide K14z) hb11); have HI10a := hide ((unhide HI10).below hb11); have HI11a := hide ((unhide HI11).below hb11); clear K11bxyz K13xyz HF6bxyz HO7bxyz HF8xyz K14z HI10 HI11
  obtain ⟨T15, e15⟩ : ∃ T, w10.heap.size = T := ⟨_, rfl⟩
  obtain ⟨W11, e11⟩ : ∃ W, (w10.alloc (.cells #[.slice a10 K c10] 34)).alloc (.cells #[.slice a11 (m - K) c11] 34) = W := ⟨_, rfl⟩
  rw [e15, e11] at K15 K16
  rw [e11] at HX11 K11bxyza K13xyza HF6bxyza HO7bxyza HF8xyza K14za HI10a HI11a
  rw [e15, e11]
  clear k15 k16 hb11 e15 e11 HX10
  obtain ⟨t0, t1, _, _, _⟩ := block2 (unhide K11bxyza)
  obtain ⟨u0, u1, _, _, _⟩ := block2 (unhide K14za)
  obtain ⟨y0, y1, _, _, _⟩ := block2 (unhide K13xyza)
  obtain ⟨p0, _, _⟩ := block1 (unhide K15)
  obtain ⟨o0, _, _⟩ := block1 (unhide K16)
  go_upto_region 13 with (go_at_call 26; (with_reducible refine Calls.mono (unhide HIS _ _ _ (unhide HO7bxyza) (unhide HI10a)) ?_); rintro e w12 ⟨rfl, hb12⟩; have HX12 := hide (Below.next (unhide HX11) hb12 (Nat.le_refl _)); have K11bxyzab := hide (keep_below (unhide K11bxyza) hb12); have K13xyzab := hide (keep_below (unhide K13xyza) hb12); have HF6bxyzab := hide ((unhide HF6bxyza).below hb12); have HO7bxyzab := hide ((unhide HO7bxyza).below hb12); have HF8xyzab := hide ((unhide HF8xyza).below hb12); have K14zab := hide (keep_below (unhide K14za) hb12); have HI10ab := hide ((unhide HI10a).below hb12); have HI11ab := hide ((unhide HI11a).below hb12); have K15b := hide (keep_below (unhide K15) hb12); have K16b := hide (keep_below (unhide K16) hb12); clear K11bxyza K13xyza HF6bxyza HO7bxyza HF8xyza K14za HI10a HI11a K15 K16; clear hb12 t0 t1 u0 u1 y0 y1 p0 o0)
  obtain ⟨t0, t1, _, _, _⟩ := block2 (unhide K11bxyzab)
  obtain ⟨u0, u1, _, _, _⟩ := block2 (unhide K14zab)
  have HL1 := hide (unhide HLA1 w12 w.heap.size (T15 + 1) a6 c6 a11 c11 (unhide HF6bxyzab) (unhide HRD _ (unhide HW _ (unhide HX12))) (unhide HI11ab) (keep_below (unhide B1) (unhide HX12)) (keep_below (unhide B2) (unhide HX12)) (unhide K16b))
  go_wp2_with (first | (go_at_call 18; (with_reducible refine Calls.mono (unhide HL1) ?_); rintro e w13 ⟨rfl, hb13⟩; have HX13 := hide (Below.next (unhide HX12) hb13 (Nat.le_refl _)); have K11bxyzabc := hide (keep_below (unhide K11bxyzab) hb13); have K13xyzabc := hide (keep_below (unhide K13xyzab) hb13); have HF6bxyzabc := hide ((unhide HF6bxyzab).below hb13); have HO7bxyzabc := hide ((unhide HO7bxyzab).below hb13); have HF8xyzabc := hide ((unhide HF8xyzab).below hb13); have K14zabc := hide (keep_below (unhide K14zab) hb13); have HI10abc := hide ((unhide HI10ab).below hb13); have HI11abc := hide ((unhide HI11ab).below hb13); have K15bc := hide (keep_below (unhide K15b) hb13); have K16bc := hide (keep_below (unhide K16b) hb13); clear K11bxyzab K13xyzab HF6bxyzab HO7bxyzab HF8xyzab K14zab HI10ab HI11ab K15b K16b; clear hb13 t0 t1 u0 u1 HL1; obtain ⟨u0, u1, _, _, _⟩ := block2 (unhide K14zabc); obtain ⟨y0, y1, _, _, _⟩ := block2 (unhide K13xyzabc); have HL2 := hide (unhide HLA2 w13 w.heap.size (T15 + 1) T15 a8 c8 a11 c11 a10 c10 (unhide HF8xyzabc) (unhide HRD _ (unhide HW _ (unhide HX13))) (unhide HI11abc) (unhide HI10abc) (keep_below (unhide B1) (unhide HX13)) (keep_below (unhide B2) (unhide HX13)) (keep_below (unhide B3) (unhide HX13)) (unhide K16bc) (unhide K15bc))) | (go_at_call 18; (with_reducible refine Calls.mono (unhide HL2) ?_); rintro e w14 ⟨rfl, hb14⟩; have HX14 := hide (Below.next (unhide HX13) hb14 (Nat.le_refl _)); clear hb14))
  go_ret
  exact ⟨rfl, unhide HW _ (unhide HX14)⟩

end Go.Proofs.Ytjlcfdhghohccaa
