/-
  ring.putLast, where nothing spills.
-/
import Derived.Test.YtcdnennfimbgoabI
namespace Go.Proofs.Ytcdnennfimbgoab
open Go.RowKit

set_option maxRecDepth 100000 in
set_option maxHeartbeats 400000 in
theorem putLast_zero (w : World) (v : Value) (zs : List Int) (h : IsInts w v zs) (hn : zs.length * 8 ≤ 140737488355328) :
    Calls Try.prog 21 #[v, .int .i64 0] w fun e w' => ∃ a' c', e = .returned (.tuple #[.slice a' zs.length c', .slice none 0 0]) ∧ Own w.heap.size w' (.slice a' zs.length c') zs ∧ Below w.heap.size w w' := by
  have HF := hide (fresh_list w v zs h hn)
  clear h
  go_enter Try.func21, Try.ntmps21
  go_wp2_with (go_at_call 17; refine (unhide HF).mono ?_; rintro e w1 ⟨a', c', rfl, ho, hb⟩; have HO := hide ho; have HB := hide hb; clear ho hb)
  refine bodyPost_ret (v := .tuple #[.slice a' zs.length c', .slice none 0 0]) (by simp [results, Try.results21, go_sem]) rfl ⟨a', c', rfl, unhide HO, unhide HB⟩

set_option maxRecDepth 100000 in
set_option maxHeartbeats 400000 in
theorem putLast_room (w : World) (v : Value) (zs : List Int) (t : Int) (h : IsInts w v zs) (hr : zs.length < 256) (ht : t ≠ 0) :
    Calls Try.prog 21 #[v, .int .i64 t] w fun e w' => ∃ a' c', e = .returned (.tuple #[.slice a' (zs.length + 1) c', .slice none 0 0]) ∧ Own w.heap.size w' (.slice a' (zs.length + 1) c') (zs ++ [t]) ∧ Below w.heap.size w w' := by
  have HF := hide (fresh_list w v zs h (by omega))
  obtain ⟨a, c, rfl⟩ := Rd.form h
  clear h
  have ht1 : (t == 0) = false := by simpa using ht
  have hr1 : ((zs.length : Int) == 256) = false := by simp; omega
  clear ht
  go_enter Try.func21, Try.ntmps21
  go_wp2_with (first
    | (go_at_call 17; refine (unhide HF).mono ?_; rintro e w1 ⟨a1, c1, rfl, ho, hb⟩; have HO := hide ho; have HB := hide hb; clear ho hb)
    | (at_builtin; refine wpList_append_ints rfl (.tmp 23) (.tmp 25) rfl w.heap.size _ zs rfl (Own.below (unhide HO) ((Below.refl _ _).alloc (Nat.le_refl _) _)) _ [t] rfl (ints_new _ t _) (by simp; omega) (Nat.le_trans (unhide HB).size (by simp)) ?_; intro a2 c2 w2 ho2 hg2; have HO2 := hide ho2; have HB2 := hide (((unhide HB).alloc (unhide HB).size _).grown hg2 (Nat.le_trans (unhide HB).size (by simp)) (fun k hk => ((unhide HO).lt k hk).1)); clear ho2 hg2))
  refine bodyPost_ret (v := .tuple #[.slice a2 (zs.length + 1) c2, .slice none 0 0]) (by simp [results, Try.results21, go_sem]) rfl ⟨a2, c2, rfl, unhide HO2, unhide HB2⟩
end Go.Proofs.Ytcdnennfimbgoab
