/-
  taskmilllaw.ClockTurns, put together.
-/
import Derived.Test.YtidpmcanfedbdaaUf
namespace Go.Proofs.Ytidpmcanfedbdaa
open Go.RowKit

theorem one_new (w : World) (o0 : Obj) : ∃ W, w.alloc o0 = W ∧ Below w.heap.size w W ∧ W.heap[w.heap.size]? = some o0 := ⟨_, rfl, (Below.refl w.heap.size w).alloc (Nat.le_refl _) o0, new_block w o0⟩

theorem turns_loop (w : World) (xs : List Int) (a0 : Option Addr) (n c0 TC : Nat) (A : Int) (hIL : IsL KI w (.slice a0 n c0) xs) (hn : n ≤ 100) (hA : 1 ≤ A) (hA1 : A ≤ 1000) (hw : w.heap.size ≤ TC) (K : Act → World → Prop) (b r : Code) (hK : ∀ a w', r.wp Try.prog (bodyPost Try.prog Try.f7 fun e w' => e = .returned (.bool true) ∧ Below w.heap.size w w') a w' → K a w') (hcut : (Try.f7.body.bind (loopFor 0)) = some (b, r)) (Wt : World) (hX : Below w.heap.size w Wt) (hC : Wt.heap[TC]? = some (.cells #[.int .i64 0, .int .i64 0, .slice none 0 0] 24))
    {s2 s3 s8 s9 s10 s11 s12 s13 s14 s15 s16 s17 s18 s19 s20 s21 s22 s23 s24 s25 s26 s27 s28 s29 s30 s31 s32 s33 s34 s35 s36 s37 s38 s39 s40 s41 s42 s43 s44 s45 s46 s47 s48 s49 s50 s51 s52 s53 s54 s55 s56 s57 s58 s59 s60 s61 s62 s63 s64 s65 s66 s67 s68 s69 s70 s71 s72 s73 s74 s75 s76 s77 s78 s79 s80 s81 s82 s83 s84 s85 s86 s87 s88 s89 s90 s91 s92 s93 s94 s95 s96 s97 s98 s99 s100 s101 s102 s103 s104 s105 s106 s107 s108 s109 s110 s111 s112 s113 s114 s115 s116 s117 s118 s119 s120 s121 s122 s123 s124 s125 s126 s127 s128 : Value} : (Code.loop b).wp Try.prog (Exit.inBlock 0 (Exit.then K (bodyPost Try.prog Try.f7 fun e w' => e = .returned (.bool true) ∧ Below w.heap.size w w'))) { tmps := (.slice a0 n c0 :: .int .i64 A :: s2 :: s3 :: .bool false :: .pointer (some ⟨TC, 0, none⟩) :: .slice none 0 0 :: .int .i64 0 :: s8 :: s9 :: s10 :: s11 :: s12 :: s13 :: s14 :: s15 :: s16 :: s17 :: s18 :: s19 :: s20 :: s21 :: s22 :: s23 :: s24 :: s25 :: s26 :: s27 :: s28 :: s29 :: s30 :: s31 :: s32 :: s33 :: s34 :: s35 :: s36 :: s37 :: s38 :: s39 :: s40 :: s41 :: s42 :: s43 :: s44 :: s45 :: s46 :: s47 :: s48 :: s49 :: s50 :: s51 :: s52 :: s53 :: s54 :: s55 :: s56 :: s57 :: s58 :: s59 :: s60 :: s61 :: s62 :: s63 :: s64 :: s65 :: s66 :: s67 :: s68 :: s69 :: s70 :: s71 :: s72 :: s73 :: s74 :: s75 :: s76 :: s77 :: s78 :: s79 :: s80 :: s81 :: s82 :: s83 :: s84 :: s85 :: s86 :: s87 :: s88 :: s89 :: s90 :: s91 :: s92 :: s93 :: s94 :: s95 :: s96 :: s97 :: s98 :: s99 :: s100 :: s101 :: s102 :: s103 :: s104 :: s105 :: s106 :: s107 :: s108 :: s109 :: s110 :: s111 :: s112 :: s113 :: s114 :: s115 :: s116 :: s117 :: s118 :: s119 :: s120 :: s121 :: s122 :: s123 :: s124 :: s125 :: s126 :: s127 :: s128 :: []).toArray, defers := [] } Wt := by
  refine wp_loop_rounds (n + 1) ?_
  refine turns_all w xs a0 n c0 TC A hIL hn hA hA1 hw K b r hcut ?_ n 0 (by omega) _ _ _ _ _ _ _ _ _ _ _ _ _ _ _ _ _ _ _ _ _ _ _ _ _ _ _ _ _ _ _ _ _ _ _ _ _ _ _ _ _ _ _ _ _ _ _ _ _ _ _ _ _ _ _ _ _ _ _ _ _ _ _ _ _ _ _ _ _ _ _ _ _ _ _ _ _ _ _ _ _ _ _ _ _ _ _ _ _ _ _ _ _ _ _ _ _ _ _ _ _ _ _ _ _ _ _ _ _ _ _ _ _ _ _ _ _ _ _ _ _ _ _ [] none 0 0 none 0 0 Wt ⟨alike_none _ _, good_none, Nat.le_refl _, fun h => absurd h (by omega), hX, hC, own_nil _ _, own_nil _ _⟩
  unfold NxZ
  intros
  rename_i zs ac mc cc aw mw cw W' hS
  refine in_b2 ?_
  refine hK _ _ ?_
  by_cases hk : n = 0
  · exact turns_tail_no w a0 n c0 TC A zs ac mc cc aw mw cw hA hA1 hw hn hk W' hS b r hcut
  · exact turns_tail_yes w a0 n c0 TC A zs ac mc cc aw mw cw hA hA1 hw hn (by omega) W' hS b r hcut

set_option maxRecDepth 100000 in
set_option maxHeartbeats 4000000 in
theorem turns_walk (w : World) (v : Value) (xs : List Int) (A : Int) (h : IsL KI w v xs) (hm : xs.length * 8 ≤ 140737488355328) :
    Calls Try.prog 7 #[v, .int .i64 A] w fun e w' => e = .returned (.bool true) ∧ Below w.heap.size w w' := by
  obtain ⟨a0, c0, rfl⟩ := h.form
  obtain ⟨n, en⟩ : ∃ n, xs.length = n := ⟨_, rfl⟩
  rw [en] at h hm ⊢
  have HIL := hide h; have HN := hide en
  clear h en
  have HX0 : Hid (Below w.heap.size w w) := Below.refl _ _
  go_enter Try.func7, Try.ntmps7
  go_upto_region 3 with (go_at_call 8; refine (begun_any _).mono ?_; rintro e w1 ⟨rfl, hb1⟩; have HX := hide hb1; clear hb1 HX0)
  by_cases h3 : 100 < n
  · have j3 : (100 : Int) < (n : Int) := by omega
    go_wp2_with fail
    go_ret
    exact ⟨rfl, unhide HX⟩
  have j3 : ¬ (100 : Int) < (n : Int) := by omega
  by_cases h4 : A < 1
  · go_wp2_with fail
    go_ret
    exact ⟨rfl, unhide HX⟩
  by_cases h5 : 1000 < A
  · go_wp2_with fail
    go_ret
    exact ⟨rfl, unhide HX⟩
  go_upto_region 6 with fail
  obtain ⟨W1, e1, hB1, k1⟩ := one_new w1 (.cells #[.int .i64 0, .int .i64 0, .slice none 0 0] 24)
  rw [e1]
  have HX1 := hide (Below.next (unhide HX) hB1 (Nat.le_refl _)); have HC := hide k1
  have hlc : w.heap.size ≤ w1.heap.size := (unhide HX).size
  clear e1 hB1 k1 HX
  obtain ⟨TC, eTC⟩ : ∃ X, w1.heap.size = X := ⟨_, rfl⟩
  rw [eTC] at HC hlc ⊢
  clear eTC
  go_wp2_with fail
  exact turns_loop w xs a0 n c0 TC A (unhide HIL) (by omega) (by omega) (by omega) hlc _ _ _ (by assumption) (by kernel_rfl) _ (unhide HX1) (unhide HC)

end Go.Proofs.Ytidpmcanfedbdaa
