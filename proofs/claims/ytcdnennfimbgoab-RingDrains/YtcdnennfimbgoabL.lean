/-
  taskmilllaw.ringBegun.
-/
import Derived.Test.YtcdnennfimbgoabK
namespace Go.Proofs.Ytcdnennfimbgoab
open Go.RowKit

theorem hpl_room (v : Value) (zs : List Int) (t : Int) (hr : zs.length < 256) (ht : t ≠ 0) (W : World) (h : IsInts W v zs) :
    Calls Try.prog 21 #[v, .int .i64 t] W fun e w' => ∃ a1 c1 a2 c2, e = .returned (.tuple #[.slice a1 (zs ++ [t]).length c1, .slice a2 ([] : List Int).length c2]) ∧ Own W.heap.size w' (.slice a1 (zs ++ [t]).length c1) (zs ++ [t]) ∧ Own W.heap.size w' (.slice a2 ([] : List Int).length c2) [] ∧ Below W.heap.size W w' := by
  refine (putLast_room W v zs t h hr ht).mono ?_
  rintro e w' ⟨a', c', rfl, ho, hb⟩
  rw [List.length_append]
  exact ⟨a', c', none, 0, rfl, ho, own_nil _ _, hb⟩
theorem hpl_zero (v : Value) (zs : List Int) (hn : zs.length * 8 ≤ 140737488355328) (W : World) (h : IsInts W v zs) :
    Calls Try.prog 21 #[v, .int .i64 0] W fun e w' => ∃ a1 c1 a2 c2, e = .returned (.tuple #[.slice a1 zs.length c1, .slice a2 ([] : List Int).length c2]) ∧ Own W.heap.size w' (.slice a1 zs.length c1) zs ∧ Own W.heap.size w' (.slice a2 ([] : List Int).length c2) [] ∧ Below W.heap.size W w' := by
  refine (putLast_zero W v zs h hn).mono ?_
  rintro e w' ⟨a', c', rfl, ho, hb⟩
  exact ⟨a', c', none, 0, rfl, ho, own_nil _ _, hb⟩

theorem ints_new2 (w : World) (x y : Int) (t : TypeId) : IsInts (w.alloc (.cells #[.int .i64 x, .int .i64 y] t)) (.slice (some ⟨w.heap.size, 0, none⟩) 2 2) [x, y] := by
  have hh := (MapKept.heap_alloc w (.cells #[.int .i64 x, .int .i64 y] t)).1
  refine ⟨rfl, Or.inr ⟨_, _, rfl, fun j u hj => ?_⟩⟩
  rw [WideShapes.add_plain]
  simp only [World.cell?, hh]
  match j, hj with
  | 0, hj => simpa using hj
  | 1, hj => simpa using hj
  | j + 2, hj => simp at hj

theorem below_new3 (w : World) (o o' o'' : Obj) : Below w.heap.size w (((w.alloc o).alloc o').alloc o'') := (below_new2 w o o').alloc (below_new2 w o o').size _
theorem ints_new2' (w : World) (o o' : Obj) (x y : Int) (t : TypeId) : IsInts (((w.alloc o).alloc o').alloc (.cells #[.int .i64 x, .int .i64 y] t)) (.slice (some ⟨w.heap.size + 1 + 1, 0, none⟩) 2 2) [x, y] := by
  have := ints_new2 ((w.alloc o).alloc o') x y t
  rw [World.size_alloc, World.size_alloc] at this
  exact this

set_option maxRecDepth 100000 in
set_option maxHeartbeats 1000000 in
theorem begun_any (w : World) :
    Calls Try.prog 5 #[] w fun e w' => e = .returned (.bool true) ∧ Below w.heap.size w w' := by
  have HP := hide (put_next (w.alloc (.cells #[.int .i64 1] 3)) 2 _ [1] 3 (ints_new w 1 3) (by simp [maxLen]) (by rfl) ([1] ++ [2]) [] (fun W h => hpl_room _ [1] 2 (by simp) (by simp) W h))
  go_enter Try.func5, Try.ntmps5
  go_wp2_with (go_at_call 11; refine (unhide HP).mono ?_; rintro e w1 ⟨a1, c1, a2, c2, rfl, ho1, ho2, hb1⟩; have HO1 := hide ho1; have HB1 := hide (((Below.refl w.heap.size w).alloc (Nat.le_refl _) (.cells #[.int .i64 1] 3)).trans (hb1.mono (by simp))); clear ho1 ho2 hb1)
  have HA := hide (below_new3 w1 (.cells #[.int .i64 3, .slice a1 2 c1] 25) (.cells #[.int .i64 0, .int .i64 0] 27) (.cells #[.int .i64 1, .int .i64 2] 3))
  have HN := hide (ints_new2' w1 (.cells #[.int .i64 3, .slice a1 2 c1] 25) (.cells #[.int .i64 0, .int .i64 0] 27) 1 2 3)
  refine (ints_same _ _ _ [1, 2] (Rd.below (unhide HO1).list.1 (unhide HA)) (unhide HN) (by simp [maxLen])).mono ?_
  rintro e w2 ⟨rfl, hb2⟩
  have HB2 := hide ((unhide HB1).trans (((unhide HA).trans (hb2.mono (unhide HA).size)).mono (unhide HB1).size))
  clear hb2
  go_wp2_with fail
  go_ret
  exact ⟨rfl, unhide HB2⟩
end Go.Proofs.Ytcdnennfimbgoab
