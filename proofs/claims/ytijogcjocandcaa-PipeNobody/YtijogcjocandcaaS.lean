/-
  taskmilllaw.pipeBegun.
-/
import Derived.Test.YtijogcjocandcaaR
namespace Go.Proofs.Ytijogcjocandcaa
open Go.RowKit

def beginP : Pp := ⟨0, [], false, [], [(1, 0, 0)]⟩
theorem begin_get (W : World) : Calls Try.prog 20 #[.agg #[.int .i64 0, .slice none 0 0, .bool false, .slice none 0 0, .slice none 0 0], .int .i64 1, .bool false] W fun e w' => ∃ v1 v2, e = .returned (.tuple #[v1, v2, .agg #[.int .i64 0, .int .i64 0]]) ∧ NewPipe W.heap.size w' v1 beginP ∧ NewAns W.heap.size w' v2 zeroA ∧ Below W.heap.size W w' :=
  get_do W _ zeroP 1 false (zero_pipe W) ⟨by decide, by decide, by decide⟩ (by decide) beginP zeroA (fun V base v' ho hb => get_wait V base v' zeroP 1 0 0 ho hb (by decide) rfl (by decide))
theorem begin_send (W : World) (v : Value) (h : IsPipe W v beginP) : Calls Try.prog 13 #[v, .int .i64 2, .int .i64 7, .bool false] W fun e w' => ∃ v1 v2, e = .returned (.tuple #[v1, v2, .agg #[.int .i64 0, .int .i64 0]]) ∧ NewPipe W.heap.size w' v1 zeroP ∧ NewAns W.heap.size w' v2 ⟨true, false, false, 0, 0, [(1, 0, 7, true, false)]⟩ ∧ Below W.heap.size W w' :=
  send_do W v beginP 2 7 false h ⟨by decide, by decide, by decide⟩ (by decide) zeroP ⟨true, false, false, 0, 0, [(1, 0, 7, true, false)]⟩ (fun V base v' ho hb => send_getter V base v' beginP 2 0 7 false ho hb (by decide) rfl (by decide))

theorem three_new (w : World) (o0 o1 o2 : Obj) : ∃ W, ((w.alloc o0).alloc o1).alloc o2 = W ∧ Below w.heap.size w W ∧ W.heap[w.heap.size]? = some o0 ∧ W.heap[w.heap.size + 1]? = some o1 ∧ W.heap[w.heap.size + 1 + 1]? = some o2 := by
  refine ⟨_, rfl, ((((Below.refl w.heap.size w).alloc (Nat.le_refl _) o0).alloc (by simp) o1).alloc (by simp; omega) o2), ?_, ?_, ?_⟩
  · exact keep_alloc (keep_alloc (new_block w o0) _) _
  · have := new_block (w.alloc o0) o1
    rw [World.size_alloc] at this
    exact keep_alloc this _
  · have := new_block ((w.alloc o0).alloc o1) o2
    rw [World.size_alloc, World.size_alloc] at this
    exact this

set_option maxRecDepth 100000 in
set_option maxHeartbeats 1000000 in
theorem begun_any (w : World) :
    Calls Try.prog 9 #[] w fun e w' => e = .returned (.bool true) ∧ Below w.heap.size w w' := by
  go_enter Try.func9, Try.ntmps9
  go_upto_region 2 with (go_at_call 20; refine (begin_get _).mono ?_; rintro e w1 ⟨v1, v2, rfl, hp1, ha1, hb1⟩; obtain ⟨a1, c1, a2, c2, a3, c3, rfl, i1, i2, i3⟩ := NewPipe.form' hp1; obtain ⟨a4, c4, rfl, i4⟩ := NewAns.form' ha1; have HP1 : Hid (IsPipe w1 (.agg #[.int .i64 0, .slice a1 0 c1, .bool false, .slice a2 0 c2, .slice a3 1 c3]) beginP) := hp1.pipe; have HB1 := hide hb1; clear hp1 ha1 hb1 i1 i2 i3 i4)
  obtain ⟨W1, eW1, hB1, k0, k1, k2⟩ := three_new w1 (.cells #[.int .i64 0, .slice a1 0 c1, .bool false, .slice a2 0 c2, .slice a3 1 c3] 25) (.cells #[.bool false, .bool false, .bool false, .int .i64 0, .int .i64 0, .slice a4 0 c4] 34) (.cells #[.int .i64 0, .int .i64 0] 30)
  rw [eW1]
  have HX1 := hide (Below.next (unhide HB1) (hB1) (Nat.le_refl _)); have HP2 := hide ((unhide HP1).below hB1)
  have HK1 := hide k1; have HK2 := hide k2
  clear eW1
  obtain ⟨⟨p0, p1, p2, p3, p4⟩, -, pl⟩ := block5 k0
  clear hB1 k0 k1 k2 HP1 HB1
  obtain ⟨T, eT⟩ : ∃ T, w1.heap.size = T := ⟨_, rfl⟩
  rw [eT] at HK1 HK2 p0 p1 p2 p3 p4 pl ⊢
  clear eT
  go_upto_region 3 with (go_at_call 13; refine (begin_send _ _ (unhide HP2)).mono ?_; rintro e w2 ⟨v1, v2, rfl, hp2, ha2, hb2⟩; obtain ⟨b1, d1, b2, d2, b3, d3, rfl, i1, i2, i3⟩ := NewPipe.form' hp2; obtain ⟨b4, d4, rfl, i4⟩ := NewAns.form' ha2; have HI4 := hide i4.1; have HB2 := hide hb2; clear hp2 ha2 hb2 i1 i2 i3 i4 p0 p1 p2 p3 p4 pl)
  obtain ⟨W2, eW2, hB2, k0, k1, k2⟩ := three_new w2 (.cells #[.int .i64 0, .slice b1 0 d1, .bool false, .slice b2 0 d2, .slice b3 0 d3] 25) (.cells #[.bool true, .bool false, .bool false, .int .i64 0, .int .i64 0, .slice b4 1 d4] 34) (.cells #[.int .i64 0, .int .i64 0] 30)
  rw [eW2]
  clear eW2
  have HX2 := hide (Below.next (Below.next (unhide HX1) (unhide HB2) (Nat.le_refl _)) hB2 (Nat.le_refl _)); have HI5 := hide ((unhide HI4).below hB2)
  have HL1 := hide (keep_below (keep_below (unhide HK1) (unhide HB2)) hB2); have HL2 := hide (keep_below (keep_below (unhide HK2) (unhide HB2)) hB2)
  obtain ⟨⟨x0, x1, x2, x3, x4, x5⟩, -, xl⟩ := block6 (unhide HL1)
  obtain ⟨t0, t1, -, -, tl⟩ := block2 (unhide HL2)
  obtain ⟨⟨z0, z1, z2, z3, z4, z5⟩, -, zl⟩ := block6 k1
  obtain ⟨u0, u1, -, -, ul⟩ := block2 k2
  clear hB2 k0 k1 k2 HK1 HK2 HI4 HB2 HX1 HP2
  have HIO := hide (isl_one kw W2 (1, 0, 7, true, false))
  have hnot : ∀ (x : Bool) (w : World), (Op.unary .not (.bool x)).run Try.prog w = .ok (.bool (!x)) w := fun _ _ => rfl
  obtain ⟨S, eS⟩ : ∃ S, w2.heap.size = S := ⟨_, rfl⟩
  rw [eS] at z0 z1 z2 z3 z4 z5 zl u0 u1 ul ⊢
  clear eS
  go_wp2_with (go_at_call 32; refine (wakes_same _ _ _ [(1, 0, 7, true, false)] ((unhide HI5).below ((Below.refl _ _).alloc (Nat.le_refl _) _)) (unhide HIO) (by simp [maxLen])).mono ?_; rintro e w3 ⟨rfl, hb3⟩; have HB3 := hide (Below.next ((unhide HX2).alloc (unhide HX2).size _) hb3 (Nat.le_refl _)); clear hb3)
  go_ret
  exact ⟨rfl, unhide HB3⟩
end Go.Proofs.Ytijogcjocandcaa
