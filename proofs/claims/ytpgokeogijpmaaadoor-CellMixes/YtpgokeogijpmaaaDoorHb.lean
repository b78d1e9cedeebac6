/-
  taskmilllaw.CellHalves returns true: the second half has a fault, or none has.
-/
import Derived.Test.YtpgokeogijpmaaaDoorHa
namespace Go.Proofs.YtpgokeogijpmaaaDoor
open Go.RowKit

/-- cell.Run without a fault, with its lists as they are read. -/
theorem run_read (w : World) (v0 : Value) (zs : List Int) (v1 : Value) (os : List Op4) (hmem : IsInts w v0 zs) (hops : IsOps w v1 os) (hf : (fault zs.length os).1 = 0) :
    Calls Tryd.prog 12 #[v0, v1] w fun e w' => ∃ am cm at' ct, e = .returned (.tuple #[.slice am zs.length cm, .slice at' os.length ct, .agg #[.int .i64 0, .int .i64 0]]) ∧ IsInts w' (.slice am zs.length cm) (ranMem zs os) ∧ IsInts w' (.slice at' os.length ct) (ranTold zs os) ∧ Below w.heap.size w w' := by
  refine (run_ok w v0 zs v1 os hmem hops hf).mono ?_
  rintro e w' ⟨m, t, rfl, hm, ht, hb⟩
  have hm' := IsInts.of_owns hm (ranMem_length os zs)
  have ht' := IsInts.of_owns ht (ranTold_length os zs)
  obtain ⟨am, cm, rfl⟩ := Rd.form hm'
  obtain ⟨at', ct, rfl⟩ := Rd.form ht'
  rw [ranMem_length] at hm' ⊢
  rw [ranTold_length] at ht' ⊢
  exact ⟨am, cm, at', ct, rfl, hm', ht', hb⟩

theorem fld (a b : Int) (W : World) : (Instr.field 27 (.agg #[.int .i64 a, .int .i64 b]) 0).run Tryd.prog W = .ok (.int .i64 a) W := by kernel_rfl

set_option maxRecDepth 100000 in
set_option maxHeartbeats 1000000 in
theorem halves_C (w : World) (a0 : Option Addr) (c0 : Nat) (v1 v2 : Value) (zs : List Int) (xs ys : List Op4) (h0 : IsInts w (.slice a0 zs.length c0) zs) (h1 : IsOps w v1 xs) (h2 : IsOps w v2 ys) (hf1 : (fault zs.length xs).1 = 0) (hn : xs.length + ys.length ≤ 5000)
    (x y : Int) (hx : x ≠ 0) (hf2 : fault zs.length ys = (x, y)) :
    Calls Tryd.prog 6 #[.slice a0 zs.length c0, v1, v2] w fun e w' => e = .returned (.bool true) ∧ Below w.heap.size w w' := by
  have hx1 : (x != 0) = true := by simpa using hx
  have hm32 := (fault_none hf1).1
  have hnot : ∀ (x : Bool) (w : World), (Op.unary .not (.bool x)).run Tryd.prog w = .ok (.bool (!x)) w := fun _ _ => rfl
  have hfld := fld
  have HR1 := hide (fun W (hW : Below w.heap.size w W) => run_read W _ zs v1 xs (Rd.below h0 hW) (Rd.below h1 hW) hf1)
  have HR2 := hide (fun W (hW : Below w.heap.size w W) am cm => run_fault W am zs.length cm v2 ys (Rd.below h2 hW) (by unfold maxLen; omega) (by unfold maxLen; omega) x y hx hf2)
  have HO : Hid (∀ W, Below w.heap.size w W → Calls Tryd.prog 13 #[.slice a0 zs.length c0, v2] W fun e w' => e = .returned (.agg #[.int .i64 x, .int .i64 y]) ∧ Below W.heap.size W w') := fun W hW => by
    have := opsf_any W a0 zs.length c0 v2 ys (Rd.below h2 hW) (by unfold maxLen; omega) (by unfold maxLen; omega)
    rw [hf2] at this
    exact this
  obtain ⟨a1, c1, rfl⟩ := Rd.form h1
  obtain ⟨a2, c2, rfl⟩ := Rd.form h2
  have hn1 : ¬ (5000 : Int) < (xs.length : Int) + (ys.length : Int) := by omega
  clear h0 h1 h2 hf1 hf2
  go_enter Tryd.func6, Tryd.ntmps6
  go_wp2_with (go_at_call 14; refine (begun_any _).mono ?_; rintro e w1 ⟨rfl, hb1⟩; have HB1 := hide hb1; clear hb1)
  refine (unhide HR1 _ (unhide HB1)).mono ?_
  rintro e w2 ⟨am, cm, at', ct, rfl, hm2, ht2, hb2⟩
  have HB2 := hide ((unhide HB1).trans (hb2.mono (unhide HB1).size))
  clear hb2 hm2 ht2 HB1 HR1
  go_wp2_with fail
  refine (unhide HR2 _ ((unhide HB2).alloc (unhide HB2).size _) _ _).mono ?_
  rintro e w3 ⟨rfl, hb3⟩
  have HB3 := hide (below_step (unhide HB2) hb3 (unhide HB2).size)
  clear hb3 HB2 HR2
  go_wp2_with (go_at_call 13; refine (unhide HO _ ((unhide HB3).alloc (unhide HB3).size _)).mono ?_; rintro e w4 ⟨rfl, hb4⟩; have HB4 := hide (below_step (unhide HB3) hb4 (unhide HB3).size); clear hb4)
  go_ret
  exact ⟨by simp, unhide HB4⟩
end Go.Proofs.YtpgokeogijpmaaaDoor
