/-
  sweep.newCycle: its own heap.
-/
import Derived.Test.YtmkehjncnaokoaaW
namespace Go.Proofs.Ytmkehjncnaokoaa
open Go.RowKit

theorem alloc_b {w W : World} {o : Obj} (h : Below w.heap.size w W) : Below w.heap.size w (W.alloc o) := h.alloc h.size o
theorem drew_b {w W : World} (h : Below w.heap.size w W) : Below w.heap.size w W.drew := h.drew
theorem set_b {w W : World} {g i : Nat} {y : Value} (h : Below w.heap.size w W) (hg : w.heap.size ≤ g) : Below w.heap.size w (W.setCell ⟨g, i, none⟩ y) := h.setCell hg y
theorem new2 (w : World) (o o' : Obj) : ((w.alloc o).alloc o').heap[w.heap.size + 1]? = some o' := by
  have := new_block (w.alloc o) o'
  rw [World.size_alloc] at this
  exact this
/-- The statement that is region n, and what follows it. -/
def cutAt (n : Nat) : Code → Option (Code × Code)
  | .seq (.region id ops dr) r => bif Nat.beq id n then some (.region id ops dr, r) else cutAt n r
  | .seq _ r => cutAt n r
  | _ => none

theorem make_rows (n : Nat) (hn : n ≤ 2000) : ∃ A : Array Value, A.toList = List.replicate n (.slice none 0 0) ∧ ∀ w : World, (Instr.makeSlice 22 (.int .i64 (n : Int)) (.int .i64 (n : Int))).run Try.prog w = .ok (.slice (some ⟨w.heap.size, 0, none⟩) n n) (w.alloc (.cells A 23)) := by
  have hinf : (Try.prog.info? 23).map (fun i => (i.zero, i.size, i.bytes)) = some (some (.slice none 0 0), 1, 24) := by kernel_rfl
  obtain ⟨i0, hi, h0, h1, h2⟩ := info_parts hinf
  refine ⟨madeCells (Value.slice none 0 0).cells (n * i0.size), by rw [h1, Nat.mul_one]; exact toList_madeCells_one _ _, fun w => ?_⟩
  have := run_makeSlice (P := Try.prog) w 22 23 i0 (.slice none 0 0) Try.underlying22 hi h0 .i64 .i64 (n : Int) (n : Int) (by omega) (by omega) (by rw [h1]; omega) (by rw [h2]; omega) (by omega)
  simpa using this

set_option maxRecDepth 100000 in
set_option maxHeartbeats 4000000 in
theorem newCycle_1 (Wt : World) (H : Nat) (ao : Option Addr) (no co : Nat) (ar : Option Addr) (nr cr : Nat) (z : Int) (rs : List Int) (hC : Wt.heap[H]? = some (.cells #[.slice ao no co, .slice ar nr cr] 25 (0, 0))) (hR : IsL KI Wt (.slice ar nr cr) rs) (hnr : nr ≤ 16) (A : Array Value) (hmk : ∀ w : World, (Instr.makeSlice 22 (.int .i64 (no : Int)) (.int .i64 (no : Int))).run Try.prog w = .ok (.slice (some ⟨w.heap.size, 0, none⟩) no no) (w.alloc (.cells A 23)))
    {s3 s4 s5 s6 s7 s8 s9 s10 s11 s12 s13 s14 s15 s16 s17 s18 s19 s20 s21 s22 s23 s24 s25 s26 s27 s28 s29 s30 s31 s32 s33 s34 s35 : Value} (K : Act → World → Prop) (R : Exit → Act → World → Prop) (x : Code) (hcut : (Try.f30.body.bind (cutAt 1)).map Prod.fst = some x)
    (hK : ∀ (s8 s9 s10 s11 s12 s13 s14 s15 : Value) (T b : Nat) (a' : Option Addr) (c' : Nat) (W' : World), Below Wt.heap.size Wt W' → Wt.heap.size ≤ T → Wt.heap.size ≤ b → T ≠ b → W'.heap[T]? = some (.cells #[.slice (some ⟨b, 0, none⟩) no no, .slice a' nr c'] 25 (0, 0)) → W'.heap[b]? = some (.cells A 23 (0, 0)) → Own KI Wt.heap.size W' (.slice a' nr c') rs → Exit.then K R Exit.normal { tmps := (.agg #[.slice ao no co, .slice ar nr cr] :: .int .i64 z :: .pointer (some ⟨H, 0, none⟩) :: s3 :: s4 :: .pointer (some ⟨T, 0, none⟩) :: s6 :: s7 :: s8 :: s9 :: s10 :: s11 :: s12 :: s13 :: s14 :: s15 :: s16 :: s17 :: s18 :: s19 :: s20 :: s21 :: s22 :: s23 :: s24 :: s25 :: s26 :: s27 :: s28 :: s29 :: s30 :: s31 :: s32 :: s33 :: s34 :: s35 :: []).toArray, defers := [] } W') :
    x.wp Try.prog (Exit.then K R) { tmps := (.agg #[.slice ao no co, .slice ar nr cr] :: .int .i64 z :: .pointer (some ⟨H, 0, none⟩) :: s3 :: s4 :: s5 :: s6 :: s7 :: s8 :: s9 :: s10 :: s11 :: s12 :: s13 :: s14 :: s15 :: s16 :: s17 :: s18 :: s19 :: s20 :: s21 :: s22 :: s23 :: s24 :: s25 :: s26 :: s27 :: s28 :: s29 :: s30 :: s31 :: s32 :: s33 :: s34 :: s35 :: []).toArray, defers := [] } Wt := by
  have hcc : (Try.f30.body.bind (cutAt 1)).map Prod.fst = some (.region _ _ _) := rfl
  rw [hcc] at hcut
  cases hcut
  clear hcc
  have HC := hide hC; have HK := hide hK
  have HCL : Hid (∀ W, Below Wt.heap.size Wt W → Calls Try.prog 39 #[.slice ar nr cr] W fun e w' => ∃ a' c', e = .returned (.slice a' nr c') ∧ Own KI W.heap.size w' (.slice a' nr c') rs ∧ Below W.heap.size W w') := fun W hW => clone_any W ar nr cr rs (hR.below hW) (by omega)
  clear hC hK hR
  have HSS : Hid (∀ W, Below Wt.heap.size Wt W → (W.cell? ⟨H, 0, none⟩ = some (.slice ao no co) ∧ W.cell? ⟨H, 1, none⟩ = some (.slice ar nr cr)) ∧ Below Wt.heap.size Wt W) := fun W hW => ⟨⟨(block2 (keep_below (unhide HC) hW)).1, (block2 (keep_below (unhide HC) hW)).2.1⟩, hW⟩
  go_region_held3 (fun W => (W.cell? ⟨H, 0, none⟩ = some (.slice ao no co) ∧ W.cell? ⟨H, 1, none⟩ = some (.slice ar nr cr)) ∧ Below Wt.heap.size Wt W)
    (first | with_reducible exact unhide HSS _ (Below.refl _ _) | with_reducible exact unhide HSS _ (unhide HY7) | (refine unhide HSS _ ?_; repeat (first | with_reducible exact Below.refl _ _ | with_reducible exact unhide HY7 | with_reducible refine drew_b ?_ | with_reducible refine alloc_b ?_ | (with_reducible refine set_b ?_ (by first | exact Nat.le_refl _ | exact (unhide HY7).size | (simp; done) | (have := (unhide HY7).size; simp; omega) | (simp; omega))))))
    (first | (go_at_call 39; (with_reducible refine Calls.mono (unhide HCL _ (by go_split_ands; assumption)) ?_); rintro e w5 ⟨a5, c5, rfl, ho5, hb5⟩; have HY7 : Hid (Below Wt.heap.size Wt w5) := Below.next (by go_split_ands; assumption) hb5 (Nat.le_refl _); have HO5 := hide ho5; have HB5 := hide hb5; (try (have h8 : w5.heap[Wt.heap.size]? = some (.cells #[.slice none 0 0, .slice none 0 0] 25 (0, 0)) := keep_below (new_block Wt.drew (.cells #[.slice none 0 0, .slice none 0 0] 25)) hb5; have H8 := hide h8; have c80 := (block2 h8).1; have c81 := (block2 h8).2.1; have d80 := (block2 h8).2.2.1; have d81 := (block2 h8).2.2.2.1; have e8 := (block2 h8).2.2.2.2; clear h8)); (try (have h8 : w5.heap[Wt.heap.size]? = some (.cells #[.slice none 0 0, .slice none 0 0] 25 (0, 0)) := keep_below (keep_alloc (new_block Wt.drew (.cells #[.slice none 0 0, .slice none 0 0] 25)) (.cells A 23)) hb5; have H8 := hide h8; have c80 := (block2 h8).1; have c81 := (block2 h8).2.1; have d80 := (block2 h8).2.2.1; have d81 := (block2 h8).2.2.2.1; have e8 := (block2 h8).2.2.2.2; clear h8)); (try (have h8 : w5.heap[Wt.heap.size + 1]? = some (.cells #[.slice none 0 0, .slice none 0 0] 25 (0, 0)) := keep_below (new2 Wt.drew (.cells A 23) (.cells #[.slice none 0 0, .slice none 0 0] 25)) hb5; have H8 := hide h8; have c80 := (block2 h8).1; have c81 := (block2 h8).2.1; have d80 := (block2 h8).2.2.1; have d81 := (block2 h8).2.2.2.1; have e8 := (block2 h8).2.2.2.2; clear h8));  clear ho5 hb5))
  · obtain ⟨W9, e9', hB9, k8, k9⟩ := two_new w5 (.cells A 23) (.cells #[.slice (some ⟨w5.heap.size, 0, none⟩) no no, .slice a5 nr c5] 25)
    rw [e9']
    exact unhide HK _ _ _ _ _ _ _ _ (w5.heap.size + 1) w5.heap.size a5 c5 W9 (Below.next (unhide HY7) hB9 (Nat.le_refl _)) (Nat.le_trans (unhide HY7).size (Nat.le_succ _)) (unhide HY7).size (by omega) k9 k8 (((unhide HO5).base (Nat.le_refl _)).below hB9)
  · obtain ⟨W9, e9', hB9, k8, k9⟩ := two_new w5 (.cells #[.slice (some ⟨w5.heap.size + 1, 0, none⟩) no no, .slice a5 nr c5] 25) (.cells A 23)
    rw [e9']
    exact unhide HK _ _ _ _ _ _ _ _ w5.heap.size (w5.heap.size + 1) a5 c5 W9 (Below.next (unhide HY7) hB9 (Nat.le_refl _)) (unhide HY7).size (Nat.le_trans (unhide HY7).size (Nat.le_succ _)) (by omega) k8 k9 (((unhide HO5).base (Nat.le_refl _)).below hB9)
  · have q1 : w5.heap[Wt.heap.size]? = some (.cells A 23 (0, 0)) := keep_below (show (Wt.alloc (.cells A 23)).drew.heap[Wt.heap.size]? = _ from new_block Wt (.cells A 23)) (unhide HB5)
    have hb1 := size_of q1
    have hsz : (Wt.alloc (.cells A 23)).drew.heap.size = Wt.heap.size + 1 := by show (Wt.alloc (.cells A 23)).heap.size = _; rw [World.size_alloc]
    exact unhide HK _ _ _ _ _ _ _ _ w5.heap.size Wt.heap.size a5 c5 _ (alloc_b (unhide HY7)) (unhide HY7).size (Nat.le_refl _) (by omega) (new_block _ _) (keep_alloc q1 _) (((unhide HO5).base (by rw [hsz]; omega)).below ((Below.refl _ _).alloc (Nat.le_refl _) _))
  · have q1 : w5.heap[Wt.heap.size]? = some (.cells A 23 (0, 0)) := keep_below (show ((Wt.alloc (.cells A 23)).alloc (.cells #[.slice none 0 0, .slice none 0 0] 25)).drew.heap[Wt.heap.size]? = _ from keep_alloc (new_block Wt (.cells A 23)) (.cells #[.slice none 0 0, .slice none 0 0] 25)) (unhide HB5)
    have hsz : ((Wt.alloc (.cells A 23)).alloc (.cells #[.slice none 0 0, .slice none 0 0] 25)).drew.heap.size = Wt.heap.size + 1 + 1 := by show ((Wt.alloc (.cells A 23)).alloc (.cells #[.slice none 0 0, .slice none 0 0] 25)).heap.size = _; rw [World.size_alloc, World.size_alloc]
    exact unhide HK _ _ _ _ _ _ _ _ (Wt.heap.size + 1) Wt.heap.size a5 c5 (put2 w5 (Wt.heap.size + 1) _ _) (put2_below (unhide HY7) (Nat.le_succ _)) (Nat.le_succ _) (Nat.le_refl _) (by omega) (put2_new (unhide H8)) ((put2_keep (by omega)).trans q1) (((unhide HO5).keep fun k hk => put2_keep (by have h_ := ((unhide HO5).lt k hk).1; rw [hsz] at h_; omega)).base (by rw [hsz]; omega))
  · have hsz : (Wt.alloc (.cells #[.slice none 0 0, .slice none 0 0] 25)).drew.heap.size = Wt.heap.size + 1 := by show (Wt.alloc (.cells #[.slice none 0 0, .slice none 0 0] 25)).heap.size = _; rw [World.size_alloc]
    have hs : (put2 w5 Wt.heap.size (.slice (some ⟨w5.heap.size, 0, none⟩) no no) (.slice a5 nr c5)).heap.size = w5.heap.size := by simp [put2, World.setCell]
    have k9 := new_block (put2 w5 Wt.heap.size (.slice (some ⟨w5.heap.size, 0, none⟩) no no) (.slice a5 nr c5)) (.cells A 23)
    rw [hs] at k9
    have hb1 := size_of (unhide H8)
    exact unhide HK _ _ _ _ _ _ _ _ Wt.heap.size w5.heap.size a5 c5 ((put2 w5 Wt.heap.size (.slice (some ⟨w5.heap.size, 0, none⟩) no no) (.slice a5 nr c5)).alloc (.cells A 23)) (alloc_b (put2_below (unhide HY7) (Nat.le_refl _))) (Nat.le_refl _) (unhide HY7).size (by omega) (keep_alloc (put2_new (unhide H8)) _) k9 ((((unhide HO5).keep fun k hk => put2_keep (by have h_ := ((unhide HO5).lt k hk).1; rw [hsz] at h_; omega)).base (by rw [hsz]; omega)).below ((Below.refl _ _).alloc (Nat.le_refl _) _))
  · have q1 : w5.heap[Wt.heap.size + 1]? = some (.cells A 23 (0, 0)) := keep_below (show ((Wt.alloc (.cells #[.slice none 0 0, .slice none 0 0] 25)).alloc (.cells A 23)).drew.heap[Wt.heap.size + 1]? = _ from new2 Wt (.cells #[.slice none 0 0, .slice none 0 0] 25) (.cells A 23)) (unhide HB5)
    have hsz : ((Wt.alloc (.cells #[.slice none 0 0, .slice none 0 0] 25)).alloc (.cells A 23)).drew.heap.size = Wt.heap.size + 1 + 1 := by show ((Wt.alloc (.cells #[.slice none 0 0, .slice none 0 0] 25)).alloc (.cells A 23)).heap.size = _; rw [World.size_alloc, World.size_alloc]
    exact unhide HK _ _ _ _ _ _ _ _ Wt.heap.size (Wt.heap.size + 1) a5 c5 (put2 w5 Wt.heap.size _ _) (put2_below (unhide HY7) (Nat.le_refl _)) (Nat.le_refl _) (Nat.le_succ _) (by omega) (put2_new (unhide H8)) ((put2_keep (by omega)).trans q1) (((unhide HO5).keep fun k hk => put2_keep (by have h_ := ((unhide HO5).lt k hk).1; rw [hsz] at h_; omega)).base (by rw [hsz]; omega))
end Go.Proofs.Ytmkehjncnaokoaa
