/-
  ring.putLast and taskmillref.Queued where a list spills.
-/
import Derived.Test.YtcdnennfimbgoaaP
namespace Go.Proofs.Ytcdnennfimbgoaa
open Go.RowKit

theorem below_ad (w : World) (o : Obj) : Below w.heap.size w (w.alloc o).drew := ((Below.refl _ _).alloc (Nat.le_refl _) o).drew
theorem IsInts.below {w w' : World} {v : Value} {zs : List Int} (h : IsInts w v zs) (hb : Below w.heap.size w w') : IsInts w' v zs := Rd.below h hb
theorem ints_new_drew (w : World) (x : Int) : IsInts (w.alloc (.cells #[.int .i64 x] 3)).drew (.slice (some ⟨w.heap.size, 0, none⟩) 1 1) [x] := IsInts.below (ints_new w x 3) (Below.refl _ _).drew

theorem step_append_n {w : World} {ops : Array Oper} {o : Oper} {a : Act} {K : Act → World → Prop} {Q : Exit → Act → World → Prop} {E : Prop} (hgd : o.guard = none) (s x : Operand)
    (ho : o.op = .call { callee := .builtin .append, args := #[s, x], argTypes := #[22, 22] }) (base : Nat) (v : Value) (xs : List Int) (hs : a.eval s = v) (hown : Own base w v xs)
    (ad : Addr) (m c : Nat) (ys : List Int) (hx : a.eval x = .slice (some ad) m c) (hm : ys.length = m) (hr : IsInts w (.slice (some ad) m c) ys) (n : Nat) (hn : xs.length + ys.length = n) (hbytes : n * 8 ≤ 140737488355328) (hbase : base ≤ w.heap.size)
    (h : ∀ a' c' w', Own base w' (.slice a' n c') (xs ++ ys) → w.grownBy w' v.ownBlock → K (a.put o.dst (.slice a' n c')) w') :
    if Region.wanted o (yielded ops a.tmps) = true then Oper.wp Try.prog o a w K Q else E := by
  subst hn
  exact step_append_ints hgd s x ho base v xs hs hown ad m c ys hx hm hr hbytes hbase h

set_option maxRecDepth 100000 in
set_option maxHeartbeats 400000 in
theorem putLast_full (w : World) (b off c : Nat) (zs : List Int) (t : Int) (hl : zs.length = 256) (h : IsInts w (.slice (some ⟨b, off, none⟩) 256 c) zs) (hcap : 256 ≤ c) (ht : t ≠ 0) :
    Calls Try.prog 29 #[.slice (some ⟨b, off, none⟩) 256 c, .int .i64 t] w fun e w' => ∃ a1 c1 a2 c2, e = .returned (.tuple #[.slice a1 128 c1, .slice a2 129 c2]) ∧ Own w.heap.size w' (.slice a1 128 c1) (zs.drop 128) ∧ Own w.heap.size w' (.slice a2 129 c2) (zs.take 128 ++ [t]) ∧ Below w.heap.size w w' := by
  have ht1 : (t == 0) = false := by simpa using ht
  have HF1 : Hid (∀ W, Below w.heap.size w W → ∀ c1, Calls Try.prog 30 #[.slice (some ⟨b, off + 128, none⟩) 128 c1] W fun e w' => ∃ a' c', e = .returned (.slice a' 128 c') ∧ Own W.heap.size w' (.slice a' 128 c') (zs.drop 128) ∧ Below W.heap.size W w') := fun W hW c1 => by
    have h1 := IsInts.part h 128 128 c1 (by omega)
    rw [List.take_of_length_le (by rw [List.length_drop]; omega)] at h1
    have := fresh_list W _ (zs.drop 128) (Rd.below h1 hW) (by rw [List.length_drop]; omega)
    rw [List.length_drop, hl] at this
    exact this
  have HF2 : Hid (∀ W, Below w.heap.size w W → ∀ c1, Calls Try.prog 30 #[.slice (some ⟨b, off, none⟩) 128 c1] W fun e w' => ∃ a' c', e = .returned (.slice a' 128 c') ∧ Own W.heap.size w' (.slice a' 128 c') (zs.take 128) ∧ Below W.heap.size W w') := fun W hW c1 => by
    have h1 := part0 h 128 c1 (by omega)
    have := fresh_list W _ (zs.take 128) (Rd.below h1 hW) (by rw [List.length_take]; omega)
    rw [List.length_take, hl] at this
    exact this
  have i1 : (128 : Int) ≤ (c : Int) := by omega
  have i2 : (256 : Int) ≤ (c : Int) := by omega
  have i3 : c ≠ 128 := by omega
  have i4 : (0 : Int) ≤ (c : Int) := by omega
  clear h ht
  go_enter Try.func29, Try.ntmps29
  go_wp2_with fail
  have HS0 : Below w.heap.size w w.drew := (Below.refl _ _).drew
  go_region_held3 (fun W => Below w.heap.size w W)
    (first | with_reducible exact HS0 | with_reducible exact HS1 | with_reducible exact HS2 | with_reducible exact HS3 | with_reducible exact HS2.alloc HS2.size _ | with_reducible exact HS1.alloc HS1.size _ | with_reducible exact below_ad w _)
    (first
      | (go_at_call 30; (first | with_reducible refine Calls.mono (unhide HF1 w.drew HS0 (c - 128)) ?_ | with_reducible refine Calls.mono (unhide HF1 (w.alloc _).drew (below_ad w _) (c - 128)) ?_); rintro e w1 ⟨a1, c1, rfl, ho1, hb1⟩; have HO1 := hide (ho1.base (show w.heap.size ≤ _ by first | exact HS0.size | exact (below_ad w _).size)); have HS1 : Below w.heap.size w w1 := (by first | exact HS0.trans (hb1.mono HS0.size) | exact (below_ad w _).trans (hb1.mono (below_ad w _).size)); have HBX1 := hide hb1; clear ho1 hb1)
      | (go_at_call 30; (first | with_reducible refine Calls.mono (unhide HF2 w1 HS1 c) ?_ | with_reducible refine Calls.mono (unhide HF2 (w1.alloc _) (HS1.alloc HS1.size _) c) ?_); rintro e w2 ⟨a2, c2, rfl, ho2, hb2⟩; have HO2 := hide (ho2.base (show w1.heap.size ≤ _ by first | exact Nat.le_refl _ | simp)); have HB2 : Hid (Below w1.heap.size w1 w2) := (by first | exact hb2 | exact ((Below.refl _ _).alloc (Nat.le_refl _) _).trans (hb2.mono (by simp))); have HS2 : Below w.heap.size w w2 := HS1.trans ((unhide HB2).mono HS1.size); have HBX2 := hide hb2; clear ho2 hb2)
      | (refine step_append_n rfl (.tmp 18) (.tmp 20) rfl w1.heap.size (.slice a2 128 c2) (zs.take 128) rfl (by first | exact unhide HO2 | exact Own.below (unhide HO2) ((Below.refl _ _).alloc (Nat.le_refl _) _)) _ _ _ [t] rfl rfl (by first | with_reducible exact ints_new w2 t 3 | with_reducible exact IsInts.below (ints_new w1 t 3) (unhide HBX2) | with_reducible exact IsInts.below (IsInts.below (ints_new_drew w t) (unhide HBX1)) (unhide HBX2)) 129 (by rw [List.length_take, hl]; rfl) (by omega) (by first | exact (unhide HB2).size | exact Nat.le_trans (unhide HB2).size (by simp)) ?_; intro a3 c3 w3 ho3 hg3; have HO3 := hide ho3; have HB3 : Hid (Below w1.heap.size w1 w3) := (by first | exact (unhide HB2).grown hg3 (unhide HB2).size (fun k hk => ((unhide HO2).lt k hk).1) | exact ((unhide HB2).alloc (unhide HB2).size _).grown hg3 (Nat.le_trans (unhide HB2).size (by simp)) (fun k hk => ((unhide HO2).lt k hk).1)); have HS3 : Below w.heap.size w w3 := HS1.trans ((unhide HB3).mono HS1.size); clear ho3 hg3))
  all_goals go_wp2_with fail
  all_goals exact bodyPost_ret (v := .tuple #[.slice a1 128 c1, .slice a3 129 c3]) (by simp [results, Try.results29, go_sem]) rfl ⟨a1, c1, a3, c3, rfl, (unhide HO1).below (unhide HB3), (unhide HO3).base HS1.size, HS3⟩
end Go.Proofs.Ytcdnennfimbgoaa
