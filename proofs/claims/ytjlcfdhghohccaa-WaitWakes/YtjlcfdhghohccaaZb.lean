/-
  The functions that taskmilllaw.WaitWakes hands over.
-/
import Derived.Test.YtjlcfdhghohccaaZa
namespace Go.Proofs.Ytjlcfdhghohccaa
open Go.RowKit

theorem enters27 : ∀ args w, (callFunc 27 args).run Try.prog w = .ok (.enter 27 args) w := fun _ _ => by kernel_rfl
theorem enters28 : ∀ args w, (callFunc 28 args).run Try.prog w = .ok (.enter 28 args) w := fun _ _ => by kernel_rfl

set_option maxRecDepth 100000 in
set_option maxHeartbeats 4000000 in
theorem wakes27_any (w : World) (Lb Ab Bb : Nat) (a : Option Addr) (n c : Nat) (x : Int) (ls : List Ln) (a2 : Option Addr) (m c2 : Nat) (zs : List Int) (h : IsLs w (.slice a n c) ls) (hr : Rises ls) (hn : n ≤ 50000) (hz : IsInts w (.slice a2 m c2) zs) (hL : w.heap[Lb]? = some (.cells #[.slice a n c] 22 (0, 0))) (hA : w.heap[Ab]? = some (.cells #[.int .i64 x] 3 (0, 0))) (hB : w.heap[Bb]? = some (.cells #[.slice a2 m c2] 34 (0, 0))) :
    Calls Try.prog 27 #[.pointer (some ⟨Lb, 0, none⟩), .pointer (some ⟨Ab, 0, none⟩), .pointer (some ⟨Bb, 0, none⟩)] w fun e w' => ∃ a' c', e = .returned (.slice a' (setL x zs ls).length c') ∧ IsLs w' (.slice a' (setL x zs ls).length c') (setL x zs ls) ∧ Below w.heap.size w w' := by
  have HSE := hide (setline_any w a n c ls h x a2 m c2 zs hz hr hn)
  obtain ⟨R, eR⟩ : ∃ R, setL x zs ls = R := ⟨_, rfl⟩
  rw [eR] at HSE ⊢
  obtain ⟨l0, _, _⟩ := block1 hL
  obtain ⟨x0, _, _⟩ := block1 hA
  obtain ⟨b0, _, _⟩ := block1 hB
  clear h hz hL hA hB eR hr
  go_enter Try.func27, Try.ntmps27
  go_wp2_with (go_at_call 20; refine (unhide HSE).mono ?_; rintro e w1 ⟨a1, c1, rfl, hi1, hb1⟩; have HI1 := hide hi1; have HB1 := hide hb1; clear hi1 hb1)
  go_ret
  exact ⟨a1, c1, rfl, unhide HI1, unhide HB1⟩

set_option maxRecDepth 100000 in
set_option maxHeartbeats 4000000 in
theorem wakes28_any (w : World) (Lb Ab Bb Tb Cb : Nat) (a : Option Addr) (n c : Nat) (x y : Int) (ls : List Ln) (a2 : Option Addr) (m c2 : Nat) (zs : List Int) (a3 : Option Addr) (m3 c3 : Nat) (fs : List Int) (h : IsLs w (.slice a n c) ls) (hr : Rises ls) (hn : n ≤ 40000) (hz : IsInts w (.slice a2 m c2) zs) (hf : IsInts w (.slice a3 m3 c3) fs) (hm3 : m3 ≤ 10000) (hT : (tasksL y (setL x zs ls)).length ≤ 10000)
    (hL : w.heap[Lb]? = some (.cells #[.slice a n c] 22 (0, 0))) (hA : w.heap[Ab]? = some (.cells #[.int .i64 x] 3 (0, 0))) (hB : w.heap[Bb]? = some (.cells #[.slice a2 m c2] 34 (0, 0))) (hTo : w.heap[Tb]? = some (.cells #[.int .i64 y] 3 (0, 0))) (hC : w.heap[Cb]? = some (.cells #[.slice a3 m3 c3] 34 (0, 0))) :
    Calls Try.prog 28 #[.pointer (some ⟨Lb, 0, none⟩), .pointer (some ⟨Ab, 0, none⟩), .pointer (some ⟨Bb, 0, none⟩), .pointer (some ⟨Tb, 0, none⟩), .pointer (some ⟨Cb, 0, none⟩)] w fun e w' => ∃ a' c', e = .returned (.slice a' (setL y (tasksL y (setL x zs ls) ++ fs) (setL x zs ls)).length c') ∧ IsLs w' (.slice a' (setL y (tasksL y (setL x zs ls) ++ fs) (setL x zs ls)).length c') (setL y (tasksL y (setL x zs ls) ++ fs) (setL x zs ls)) ∧ Below w.heap.size w w' := by
  have HSE := hide (setline_any w a n c ls h x a2 m c2 zs hz hr (by omega))
  have hrR : Rises (setL x zs ls) := setL_rises hr
  have hRn : (setL x zs ls).length ≤ n + 1 := by have := setL_length (x := x) (zs := zs) (ls := ls); have := h.len; omega
  obtain ⟨R, eR⟩ : ∃ R, setL x zs ls = R := ⟨_, rfl⟩
  rw [eR] at HSE hrR hT hRn ⊢
  obtain ⟨l0, _, _⟩ := block1 hL
  obtain ⟨x0, _, _⟩ := block1 hA
  obtain ⟨b0, _, _⟩ := block1 hB
  have HTo := hide hTo; have HC := hide hC; have HFS := hide hf
  obtain ⟨rn, ern⟩ : ∃ k, R.length = k := ⟨_, rfl⟩
  rw [ern] at HSE hRn
  have HAT : Hid (∀ W a1 c1, IsLs W (.slice a1 rn c1) R → Calls Try.prog 21 #[.slice a1 rn c1, .int .i64 y] W fun e w' => ∃ a' c', e = .returned (.slice a' (tasksL y R).length c') ∧ IsInts w' (.slice a' (tasksL y R).length c') (tasksL y R) ∧ w' = W) := fun W a1 c1 hW => by
    have := atline_any W a1 rn c1 y R ern hW (by omega)
    rw [atL_tasks hrR] at this
    exact this
  obtain ⟨T, eT⟩ : ∃ T, tasksL y R = T := ⟨_, rfl⟩
  rw [eT] at HAT hT ⊢
  obtain ⟨q, eq⟩ : ∃ q, T.length = q := ⟨_, rfl⟩
  rw [eq] at HAT hT
  have HM := hide eq
  have HOW : Hid (∀ W v, IsInts W v T → Calls Try.prog 22 #[v] W fun e w' => ∃ a' c', e = .returned (.slice a' q c') ∧ Own W.heap.size w' (.slice a' q c') T ∧ Below W.heap.size W w') := fun W v hi => by
    have := own_ints W v T hi (by rw [unhide HM]; omega)
    rw [unhide HM] at this
    refine this.mono ?_
    rintro e w' ⟨a', c', e1, h2, h3⟩
    exact ⟨a', c', e1, by rw [Own, unhide HM]; exact h2, h3⟩
  have HSF : Hid (∀ W a1 c1 a4 m4 c4, IsLs W (.slice a1 rn c1) R → IsInts W (.slice a4 m4 c4) (T ++ fs) → Calls Try.prog 20 #[.slice a1 rn c1, .int .i64 y, .slice a4 m4 c4] W fun e w' => ∃ a' c', e = .returned (.slice a' (setL y (T ++ fs) R).length c') ∧ IsLs w' (.slice a' (setL y (T ++ fs) R).length c') (setL y (T ++ fs) R) ∧ Below W.heap.size W w') := fun W a1 c1 a4 m4 c4 h1 h2 => setline_any W a1 rn c1 R h1 y a4 m4 c4 (T ++ fs) h2 hrR (by omega)
  obtain ⟨F, eF⟩ : ∃ F, setL y (T ++ fs) R = F := ⟨_, rfl⟩
  rw [eF] at HSF ⊢
  obtain ⟨fn, efn⟩ : ∃ k, F.length = k := ⟨_, rfl⟩
  rw [efn] at HSF ⊢
  have HL3 := hide hf.len
  clear h hz hL hA hB eR hr hrR ern eT eq eF efn hTo hC hf hRn
  go_enter Try.func28, Try.ntmps28
  go_upto_region 2 with (go_at_call 20; refine (unhide HSE).mono ?_; rintro e w1 ⟨a1, c1, rfl, hi1, hb1⟩; have HI1 := hide hi1; have HB1 := hide hb1; clear hi1 hb1)
  have HF : Hid (∀ W, Below w1.heap.size w1 W → W.cell? ⟨Tb, 0, none⟩ = some (.int .i64 y) ∧ W.cell? ⟨Cb, 0, none⟩ = some (.slice a3 m3 c3) ∧ Below w1.heap.size w1 W) := fun W hW => ⟨(block1 (keep_below (keep_below (unhide HTo) (unhide HB1)) hW)).1, (block1 (keep_below (keep_below (unhide HC) (unhide HB1)) hW)).1, hW⟩
  have HBD := hide (Below.refl w1.heap.size w1).drew
  clear l0 x0 b0 HSE
  go_region_held3 (fun W => W.cell? ⟨Tb, 0, none⟩ = some (.int .i64 y) ∧ W.cell? ⟨Cb, 0, none⟩ = some (.slice a3 m3 c3) ∧ Below w1.heap.size w1 W)
    (first | with_reducible exact unhide HF _ (unhide HBD) | with_reducible exact unhide HF _ (unhide HX3) | with_reducible exact unhide HF _ (unhide HX4) | with_reducible exact unhide HF _ (unhide HX5))
    (first
      | (go_at_call 21; (with_reducible refine Calls.mono (unhide HAT _ _ _ ((unhide HI1).below (unhide HBD))) ?_); rintro e _ ⟨a2', c2', rfl, hi2, rfl⟩; have HI2 := hide hi2; clear hi2)
      | (go_at_call 22; (with_reducible refine Calls.mono (unhide HOW _ _ (unhide HI2)) ?_); rintro e w3 ⟨a3', c3', rfl, ho3, hb3⟩; have HO3 := hide (ho3.base (show w1.heap.size ≤ _ by exact (unhide HBD).size)); have HX3 := hide (Below.next (unhide HBD) hb3 (Nat.le_refl _)); clear ho3 hb3)
      | (refine step_append_ints (by rfl) (.tmp 16) (.tmp 17) rfl w1.heap.size (.slice a3' q c3') T rfl (unhide HO3) _ fs rfl (((unhide HFS).below (unhide HB1)).below (unhide HX3)) (q + m3) (by rw [unhide HM, unhide HL3]) (by omega) (unhide HX3).size ?_; intro a4 c4 w4 ho4 hg4; have HI4 := hide ho4.ints; have HX4 := hide ((unhide HX3).grown hg4 (unhide HX3).size (fun k hk => ((unhide HO3).lt k hk).1)); clear ho4 hg4)
      | (go_at_call 20; (with_reducible refine Calls.mono (unhide HSF _ _ _ _ _ _ ((unhide HI1).below (unhide HX4)) (unhide HI4)) ?_); rintro e w5 ⟨a5, c5, rfl, hi5, hb5⟩; have HI5 := hide hi5; have HX5 := hide (Below.next (unhide HX4) hb5 (Nat.le_refl _)); clear hi5 hb5))
  all_goals go_wp2_with fail
  all_goals go_ret
  all_goals exact ⟨a5, c5, rfl, unhide HI5, Below.next (unhide HB1) (unhide HX5) (Nat.le_refl _)⟩

end Go.Proofs.Ytjlcfdhghohccaa
