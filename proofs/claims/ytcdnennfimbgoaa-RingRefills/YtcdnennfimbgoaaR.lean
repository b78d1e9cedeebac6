/-
  taskmillref.Queued where a list spills.
-/
import Derived.Test.YtcdnennfimbgoaaQ
namespace Go.Proofs.Ytcdnennfimbgoaa
open Go.RowKit

theorem grown_below {w w' : World} (h : w.grownBy w' (Value.slice none 0 0).ownBlock) : Below w.heap.size w w' := (Below.refl _ _).grown h (Nat.le_refl _) (fun k hk => by cases hk)

set_option maxRecDepth 100000 in
set_option maxHeartbeats 400000 in
theorem queued_full (w : World) (b off c : Nat) (zs : List Int) (t : Int) (hl : zs.length = 256) (h : IsInts w (.slice (some ⟨b, off, none⟩) 256 c) zs) (hcap : 256 ≤ c) :
    Calls Try.prog 19 #[.slice (some ⟨b, off, none⟩) 256 c, .int .i64 t] w fun e w' => ∃ a1 c1 a2 c2, e = .returned (.tuple #[.slice a1 128 c1, .slice a2 129 c2]) ∧ Own w.heap.size w' (.slice a1 128 c1) (zs.drop 128) ∧ Own w.heap.size w' (.slice a2 129 c2) (zs.take 128 ++ [t]) ∧ Below w.heap.size w w' := by
  have HF1 : Hid (∀ c1, IsInts w (.slice (some ⟨b, off + 128, none⟩) 128 c1) (zs.drop 128)) := fun c1 => by
    have h1 := IsInts.part h 128 128 c1 (by omega)
    rw [List.take_of_length_le (by rw [List.length_drop]; omega)] at h1
    exact h1
  have HF2 : Hid (∀ c1, IsInts w (.slice (some ⟨b, off, none⟩) 128 c1) (zs.take 128)) := fun c1 => part0 h 128 c1 (by omega)
  have i1 : (128 : Int) ≤ (c : Int) := by omega
  have i2 : (256 : Int) ≤ (c : Int) := by omega
  have i3 : c ≠ 128 := by omega
  have i4 : (0 : Int) ≤ (c : Int) := by omega
  clear h
  go_enter Try.func19, Try.ntmps19
  go_wp2_with fail
  have HS0 : Below w.heap.size w w.drew := (Below.refl _ _).drew
  go_region_held3 (fun W => Below w.heap.size w W)
    (first | with_reducible exact HS0 | with_reducible exact HS1 | with_reducible exact HS2 | with_reducible exact HS3 | with_reducible exact HS2.alloc HS2.size _ | with_reducible exact HS1.alloc HS1.size _ | with_reducible exact below_ad w _)
    (first
      | (refine step_append_n rfl (.const (.slice none 0 0)) (.tmp 15) rfl w.heap.size (.slice none 0 0) [] rfl (own_nil _ _) ⟨b, off + 128, none⟩ 128 (c - 128) (zs.drop 128) rfl (by rw [List.length_drop, hl]) (by first | with_reducible exact IsInts.below (unhide HF1 _) HS0 | with_reducible exact IsInts.below (unhide HF1 _) (below_ad w _)) 128 (by rw [List.length_drop, hl]; rfl) (by omega) (by first | exact HS0.size | exact (below_ad w _).size) ?_; intro a1 c1 w1 ho1 hg1; have HO1 := hide ho1; have HS1 : Below w.heap.size w w1 := (by first | exact HS0.trans ((grown_below hg1).mono HS0.size) | exact (below_ad w _).trans ((grown_below hg1).mono (below_ad w _).size)); have HG1 := hide hg1; clear ho1 hg1)
      | (refine step_append_n rfl (.const (.slice none 0 0)) (.tmp 18) rfl w1.heap.size (.slice none 0 0) [] rfl (own_nil _ _) ⟨b, off, none⟩ 128 c (zs.take 128) rfl (by rw [List.length_take, hl]; rfl) (by first | with_reducible exact IsInts.below (unhide HF2 _) HS1 | with_reducible exact IsInts.below (unhide HF2 _) (HS1.alloc HS1.size _)) 128 (by rw [List.length_take, hl]; rfl) (by omega) (by first | exact Nat.le_refl _ | simp) ?_; intro a2 c2 w2 ho2 hg2; have HO2 : Hid (Own w1.heap.size w2 (.slice a2 128 c2) (zs.take 128)) := ho2; have HB2 : Hid (Below w1.heap.size w1 w2) := (by first | exact grown_below hg2 | exact ((Below.refl _ _).alloc (Nat.le_refl _) _).trans ((grown_below hg2).mono (by simp))); have HS2 : Below w.heap.size w w2 := HS1.trans ((unhide HB2).mono HS1.size); have HG2 := hide hg2; clear ho2 hg2)
      | (refine step_append_n rfl (.tmp 19) (.tmp 21) rfl w1.heap.size (.slice a2 128 c2) (zs.take 128) rfl (by first | exact unhide HO2 | exact Own.below (unhide HO2) ((Below.refl _ _).alloc (Nat.le_refl _) _)) _ _ _ [t] rfl rfl (by first | with_reducible exact ints_new w2 t 3 | with_reducible exact IsInts.below (ints_new w1 t 3) (grown_below (unhide HG2)) | with_reducible exact IsInts.below (IsInts.below (ints_new_drew w t) (grown_below (unhide HG1))) (grown_below (unhide HG2))) 129 (by rw [List.length_take, hl]; rfl) (by omega) (by first | exact (unhide HB2).size | exact Nat.le_trans (unhide HB2).size (by simp)) ?_; intro a3 c3 w3 ho3 hg3; have HO3 := hide ho3; have HB3 : Hid (Below w1.heap.size w1 w3) := (by first | exact (unhide HB2).grown hg3 (unhide HB2).size (fun k hk => ((unhide HO2).lt k hk).1) | exact ((unhide HB2).alloc (unhide HB2).size _).grown hg3 (Nat.le_trans (unhide HB2).size (by simp)) (fun k hk => ((unhide HO2).lt k hk).1)); have HS3 : Below w.heap.size w w3 := HS1.trans ((unhide HB3).mono HS1.size); clear ho3 hg3))
  all_goals go_wp2_with fail
  all_goals exact bodyPost_ret (v := .tuple #[.slice a1 128 c1, .slice a3 129 c3]) (by simp [results, Try.results19, go_sem]) rfl ⟨a1, c1, a3, c3, rfl, Own.below (zs := zs.drop 128) (unhide HO1) (unhide HB3), (unhide HO3).base HS1.size, HS3⟩
end Go.Proofs.Ytcdnennfimbgoaa
