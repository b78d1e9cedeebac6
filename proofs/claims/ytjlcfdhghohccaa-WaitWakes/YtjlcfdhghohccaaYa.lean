/-
  taskmilllaw.linesAs, and the function that taskmilllaw.WaitAdds hands it.
-/
import Derived.Test.YtjlcfdhghohccaaXc
namespace Go.Proofs.Ytjlcfdhghohccaa
open Go.RowKit

set_option maxRecDepth 100000 in
set_option maxHeartbeats 2000000 in
theorem linesas_fault (w : World) (u v : Int) (hu : u ≠ 0) (k : Nat) (caps : Array Value) :
    Calls Try.prog 18 #[.slice none 0 0, .agg #[.int .i64 u, .int .i64 v], .agg #[.int .i64 u, .int .i64 v], .func (.func k) #[] caps] w fun e w' => e = .returned (.bool true) ∧ Below w.heap.size w w' := by
  have c2 : (u != 0) = true := by simpa using hu
  have c3 : (u == u) = true := by simp
  have c4 : (v == v) = true := by simp
  have HB := hide (((Below.refl w.heap.size w).alloc (Nat.le_refl _) (.cells #[.int .i64 u, .int .i64 v] 27)).alloc (by simp) (.cells #[.int .i64 u, .int .i64 v] 27))
  go_enter Try.func18, Try.ntmps18
  go_wp2_with fail
  go_ret
  exact ⟨rfl, unhide HB⟩

set_option maxRecDepth 100000 in
set_option maxHeartbeats 2000000 in
theorem linesas_ok (w : World) (a : Option Addr) (n c : Nat) (L : List Ln) (hl : L.length = n) (h : IsLs w (.slice a n c) L) (hn : n ≤ 100000) (ht : (waitL L).length ≤ 100000) (k : Nat) (hent : ∀ args w, (callFunc k args).run Try.prog w = .ok (.enter k args) w) (caps : Array Value)
    (hc : ∀ W, Below w.heap.size w W → Calls Try.prog k caps W fun e w' => ∃ a' c', e = .returned (.slice a' n c') ∧ IsLs w' (.slice a' n c') L ∧ Below W.heap.size W w') :
    Calls Try.prog 18 #[.slice a n c, .agg #[.int .i64 0, .int .i64 0], .agg #[.int .i64 0, .int .i64 0], .func (.func k) #[] caps] w fun e w' => e = .returned (.bool true) ∧ Below w.heap.size w w' := by
  have HB := hide (((Below.refl w.heap.size w).alloc (Nat.le_refl _) (.cells #[.int .i64 0, .int .i64 0] 27)).alloc (by simp) (.cells #[.int .i64 0, .int .i64 0] 27))
  have HC := hide hc; have HV := hide h
  have HS : Hid (∀ W a c a1 c1, IsLs W (.slice a n c) L → IsLs W (.slice a1 n c1) L → Calls Try.prog 14 #[.slice a n c, .slice a1 n c1] W fun e w' => e = .returned (.bool true) ∧ Below W.heap.size W w') := fun W a c a1 c1 h1 h2 => samelines_any W a a1 n c c1 L hl h1 h2 hn ht
  clear hc h hl ht
  go_enter Try.func18, Try.ntmps18
  go_wp2_with (first
    | (go_at_call 14; refine (unhide HS _ _ _ _ _ ((unhide HV).below (unhide HX1)) (unhide HI1)).mono ?_; rintro e w2 ⟨rfl, hb2⟩; have HX2 := hide (Below.next (unhide HX1) hb2 (Nat.le_refl _)); clear hb2)
    | (refine (unhide HC _ (unhide HB)).mono ?_; rintro e w1 ⟨a1, c1, rfl, hi1, hb1⟩; have HI1 := hide hi1; have HX1 := hide (Below.next (unhide HB) hb1 (Nat.le_refl _)); clear hi1 hb1))
  go_ret
  exact ⟨rfl, unhide HX2⟩

theorem own_one (w : World) (x : Int) : Own w.heap.size (w.alloc (.cells #[.int .i64 x] 3)) (.slice (some ⟨w.heap.size, 0, none⟩) 1 1) [x] :=
  ⟨rfl, Or.inr ⟨w.heap.size, 1, #[.int .i64 x], rfl, Nat.le_refl _, new_block w _, Nat.le_refl _, by decide, rfl, rfl⟩⟩
theorem enters19 : ∀ args w, (callFunc 19 args).run Try.prog w = .ok (.enter 19 args) w := fun _ _ => by kernel_rfl

set_option maxRecDepth 100000 in
set_option maxHeartbeats 4000000 in
theorem adds19_any (w : World) (F Lb Ab Kb : Nat) (fst : Bool) (a : Option Addr) (n c : Nat) (x task : Int) (ls : List Ln) (h : IsLs w (.slice a n c) ls) (hg : Good ls) (hF : w.heap[F]? = some (.cells #[.bool fst] 4 (0, 0))) (hL : w.heap[Lb]? = some (.cells #[.slice a n c] 22 (0, 0))) (hA : w.heap[Ab]? = some (.cells #[.int .i64 x] 3 (0, 0))) (hK : w.heap[Kb]? = some (.cells #[.int .i64 task] 3 (0, 0))) :
    Calls Try.prog 19 #[.pointer (some ⟨F, 0, none⟩), .pointer (some ⟨Lb, 0, none⟩), .pointer (some ⟨Ab, 0, none⟩), .pointer (some ⟨Kb, 0, none⟩)] w fun e w' => ∃ a' c', e = .returned (.slice a' (addL ls x task fst).length c') ∧ IsLs w' (.slice a' (addL ls x task fst).length c') (addL ls x task fst) ∧ Below w.heap.size w w' := by
  have hn5 := hg.len
  have hl := h.len
  have htl := tasksL_le x ls
  have hq5 := hg.few
  have HAT : Hid (∀ W, Below w.heap.size w W → Calls Try.prog 21 #[.slice a n c, .int .i64 x] W fun e w' => ∃ a' c', e = .returned (.slice a' (tasksL x ls).length c') ∧ IsInts w' (.slice a' (tasksL x ls).length c') (tasksL x ls) ∧ w' = W) := fun W hW => by
    have := atline_any W a n c x ls hl (h.below hW) (by omega)
    rw [atL_tasks hg.rise] at this
    exact this
  have HSE : Hid (∀ W a1 n1 c1 zs, Below w.heap.size w W → IsInts W (.slice a1 n1 c1) zs → Calls Try.prog 20 #[.slice a n c, .int .i64 x, .slice a1 n1 c1] W fun e w' => ∃ a' c', e = .returned (.slice a' (setL x zs ls).length c') ∧ IsLs w' (.slice a' (setL x zs ls).length c') (setL x zs ls) ∧ Below W.heap.size W w') := fun W a1 n1 c1 zs hW hi => setline_any W a n c ls (h.below hW) x a1 n1 c1 zs hi hg.rise (by omega)
  have HF : Hid (∀ W, Below w.heap.size w W → W.cell? ⟨Lb, 0, none⟩ = some (.slice a n c) ∧ W.cell? ⟨Ab, 0, none⟩ = some (.int .i64 x) ∧ W.cell? ⟨Kb, 0, none⟩ = some (.int .i64 task) ∧ Below w.heap.size w W) := fun W hW => ⟨(block1 (keep_below hL hW)).1, (block1 (keep_below hA hW)).1, (block1 (keep_below hK hW)).1, hW⟩
  have f0 := (block1 hF).1
  unfold addL
  obtain ⟨T, eT⟩ : ∃ T, tasksL x ls = T := ⟨_, rfl⟩
  rw [eT] at HAT htl ⊢
  obtain ⟨m, em⟩ : ∃ m, T.length = m := ⟨_, rfl⟩
  rw [em] at HAT htl
  have HM := hide em
  have hm : m ≤ 5000 := by omega
  clear h hg hF hL hA hK hl eT em htl
  cases fst with
  | true =>
    rw [if_pos rfl]
    obtain ⟨R, eR⟩ : ∃ R, setL x ([task] ++ T) ls = R := ⟨_, rfl⟩
    rw [show setL x (task :: T) ls = R from eR]
    obtain ⟨rn, ern⟩ : ∃ k, R.length = k := ⟨_, rfl⟩
    have HSR : Hid (∀ W a1 n1 c1, Below w.heap.size w W → IsInts W (.slice a1 n1 c1) ([task] ++ T) → Calls Try.prog 20 #[.slice a n c, .int .i64 x, .slice a1 n1 c1] W fun e w' => ∃ a' c', e = .returned (.slice a' rn c') ∧ IsLs w' (.slice a' rn c') R ∧ Below W.heap.size W w') := fun W a1 n1 c1 hW hi => by
      have := unhide HSE W a1 n1 c1 _ hW hi
      rw [eR, ern] at this
      exact this
    rw [ern]
    clear HSE eR ern
    have HBD := hide (Below.refl w.heap.size w).drew
    have HBE := hide ((Below.refl w.heap.size w).alloc (Nat.le_refl _) (.cells #[.int .i64 task] 3)).drew
    have HDW := hide (Below.refl (w.alloc (.cells #[.int .i64 task] 3)).heap.size (w.alloc (.cells #[.int .i64 task] 3))).drew
    have HDE : Hid (Below w.drew.heap.size w.drew (w.alloc (.cells #[.int .i64 task] 3)).drew) := hide ((Below.refl w.drew.heap.size w.drew).alloc (Nat.le_refl _) (.cells #[.int .i64 task] 3))
    go_enter Try.func19, Try.ntmps19
    go_upto_region 2 with fail
    clear f0
    go_region_held3 (fun W => W.cell? ⟨Lb, 0, none⟩ = some (.slice a n c) ∧ W.cell? ⟨Ab, 0, none⟩ = some (.int .i64 x) ∧ W.cell? ⟨Kb, 0, none⟩ = some (.int .i64 task) ∧ Below w.heap.size w W)
      (first | with_reducible exact unhide HF _ (unhide HBD) | with_reducible exact unhide HF _ (unhide HBE) | with_reducible exact unhide HF _ (unhide HX4) | with_reducible exact unhide HF _ (unhide HX5))
      (first
        | (go_at_call 21; (first | with_reducible refine Calls.mono (unhide HAT _ (unhide HBD)) ?_ | with_reducible refine Calls.mono (unhide HAT _ (unhide HBE)) ?_); rintro e _ ⟨a2, c2, rfl, hi2, rfl⟩; have HI2 := hide hi2; have HI2E : Hid (IsInts (w.alloc (.cells #[.int .i64 task] 3)).drew (.slice a2 m c2) T) := (by first | exact hi2 | exact hi2.below (unhide HDE)); clear hi2)
        | (refine step_append_ints (by rfl) (.tmp 9) (.tmp 12) rfl w.heap.size (.slice (some ⟨w.heap.size, 0, none⟩) 1 1) [task] rfl ((own_one w task).below (unhide HDW)) _ T rfl (unhide HI2E) (1 + m) (by rw [unhide HM]; rfl) (by omega) (unhide HBE).size ?_; intro a4 c4 w4 ho4 hg4; have HI4 := hide ho4.ints; have HX4 := hide ((unhide HBE).grown hg4 (unhide HBE).size (fun k hk => ((own_one w task).lt k hk).1)); clear ho4 hg4)
        | (go_at_call 20; (with_reducible refine Calls.mono (unhide HSR _ _ _ _ (unhide HX4) (unhide HI4)) ?_); rintro e w5 ⟨a5, c5, rfl, hi5, hb5⟩; have HI5 := hide hi5; have HX5 := hide (Below.next (unhide HX4) hb5 (Nat.le_refl _)); clear hi5 hb5))
    all_goals go_wp2_with fail
    all_goals go_ret
    all_goals exact ⟨a5, c5, rfl, unhide HI5, unhide HX5⟩
  | false =>
    rw [if_neg (by simp)]
    obtain ⟨R, eR⟩ : ∃ R, setL x (T ++ [task]) ls = R := ⟨_, rfl⟩
    rw [eR]
    obtain ⟨rn, ern⟩ : ∃ k, R.length = k := ⟨_, rfl⟩
    have HSR : Hid (∀ W a1 n1 c1, Below w.heap.size w W → IsInts W (.slice a1 n1 c1) (T ++ [task]) → Calls Try.prog 20 #[.slice a n c, .int .i64 x, .slice a1 n1 c1] W fun e w' => ∃ a' c', e = .returned (.slice a' rn c') ∧ IsLs w' (.slice a' rn c') R ∧ Below W.heap.size W w') := fun W a1 n1 c1 hW hi => by
      have := unhide HSE W a1 n1 c1 _ hW hi
      rw [eR, ern] at this
      exact this
    have HOW : Hid (∀ W v, IsInts W v T → Calls Try.prog 22 #[v] W fun e w' => ∃ a' c', e = .returned (.slice a' m c') ∧ Own W.heap.size w' (.slice a' m c') T ∧ Below W.heap.size W w') := fun W v hi => by
      have := own_ints W v T hi (by rw [unhide HM]; omega)
      rw [unhide HM] at this
      refine this.mono ?_
      rintro e w' ⟨a', c', e1, h2, h3⟩
      exact ⟨a', c', e1, by rw [Own, unhide HM]; exact h2, h3⟩
    rw [ern]
    clear HSE eR ern
    have HBD := hide (Below.refl w.heap.size w).drew
    have HBE := hide ((Below.refl w.heap.size w).alloc (Nat.le_refl _) (.cells #[.int .i64 task] 3)).drew
    have HDW := hide (Below.refl (w.alloc (.cells #[.int .i64 task] 3)).heap.size (w.alloc (.cells #[.int .i64 task] 3))).drew
    have HDE : Hid (Below w.drew.heap.size w.drew (w.alloc (.cells #[.int .i64 task] 3)).drew) := hide ((Below.refl w.drew.heap.size w.drew).alloc (Nat.le_refl _) (.cells #[.int .i64 task] 3))
    go_enter Try.func19, Try.ntmps19
    go_upto_region 3 with fail
    clear f0
    go_region_held3 (fun W => W.cell? ⟨Lb, 0, none⟩ = some (.slice a n c) ∧ W.cell? ⟨Ab, 0, none⟩ = some (.int .i64 x) ∧ W.cell? ⟨Kb, 0, none⟩ = some (.int .i64 task) ∧ Below w.heap.size w W)
      (first | with_reducible exact unhide HF _ (unhide HBD) | with_reducible exact unhide HF _ (unhide HBE) | with_reducible exact unhide HF _ (unhide HX3) | with_reducible exact unhide HF _ ((unhide HX3).alloc (unhide HX3).size _) | with_reducible exact unhide HF _ (unhide HX4) | with_reducible exact unhide HF _ (unhide HX5))
      (first
        | (go_at_call 21; (first | with_reducible refine Calls.mono (unhide HAT _ (unhide HBD)) ?_ | with_reducible refine Calls.mono (unhide HAT _ (unhide HBE)) ?_); rintro e _ ⟨a2, c2, rfl, hi2, rfl⟩; have HI2 := hide hi2; have HI2E : Hid (IsInts (w.alloc (.cells #[.int .i64 task] 3)).drew (.slice a2 m c2) T) := (by first | exact hi2 | exact hi2.below (unhide HDE)); clear hi2)
        | (go_at_call 22; (first | with_reducible refine Calls.mono (unhide HOW _ _ (unhide HI2)) ?_ | with_reducible refine Calls.mono (unhide HOW _ _ (unhide HI2E)) ?_); rintro e w3 ⟨a3, c3, rfl, ho3, hb3⟩; have HO3 := hide (ho3.base (show w.heap.size ≤ _ by first | exact Nat.le_refl _ | exact (unhide HBE).size)); have HX3 : Hid (Below w.heap.size w w3) := (by first | exact Below.next (unhide HBD) hb3 (Nat.le_refl _) | exact Below.next (unhide HBE) hb3 (Nat.le_refl _)); have HB3 := hide hb3; clear ho3 hb3)
        | (refine step_append_ints (by rfl) (.tmp 20) (.tmp 22) rfl w.heap.size (.slice a3 m c3) T rfl (by first | exact unhide HO3 | exact (unhide HO3).below ((Below.refl _ _).alloc (Nat.le_refl _) _)) _ [task] rfl (by first | exact ints_new w3 task 3 | exact ((ints_new w task 3).below (unhide HDW)).below (unhide HB3)) (m + 1) (by rw [unhide HM]; rfl) (by omega) (by first | exact (unhide HX3).size | exact Nat.le_trans (unhide HX3).size (by simp)) ?_; intro a4 c4 w4 ho4 hg4; have HI4 := hide ho4.ints; have HX4 : Hid (Below w.heap.size w w4) := (by first | exact (unhide HX3).grown hg4 (unhide HX3).size (fun k hk => ((unhide HO3).lt k hk).1) | exact ((unhide HX3).alloc (unhide HX3).size _).grown hg4 (Nat.le_trans (unhide HX3).size (by simp)) (fun k hk => ((unhide HO3).lt k hk).1)); clear ho4 hg4)
        | (go_at_call 20; (with_reducible refine Calls.mono (unhide HSR _ _ _ _ (unhide HX4) (unhide HI4)) ?_); rintro e w5 ⟨a5, c5, rfl, hi5, hb5⟩; have HI5 := hide hi5; have HX5 := hide (Below.next (unhide HX4) hb5 (Nat.le_refl _)); clear hi5 hb5))
    all_goals go_wp2_with fail
    all_goals go_ret
    all_goals exact ⟨a5, c5, rfl, unhide HI5, unhide HX5⟩
end Go.Proofs.Ytjlcfdhghohccaa
