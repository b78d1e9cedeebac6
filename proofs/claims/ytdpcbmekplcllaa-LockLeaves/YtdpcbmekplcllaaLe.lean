/-
  taskmilllaw.LockLeaves.
-/
import Derived.Test.YtdpcbmekplcllaaLb
import Derived.Test.YtdpcbmekplcllaaLc
import Derived.Test.YtdpcbmekplcllaaLd
import Derived.Test.YtdpcbmekplcllaaLf
import Derived.Test.YtdpcbmekplcllaaLg
import Derived.Test.YtdpcbmekplcllaaLh
namespace Go.Proofs.Ytdpcbmekplcllaa
open Go.RowKit

set_option maxRecDepth 100000 in
set_option maxHeartbeats 1000000 in
theorem leaves_early (w : World) (v : Value) (P : Lk) (x : Int) (wt : Bool) (h : IsLock w v P) (hn : 700 < P.line.length) :
    Calls Try.prog 4 #[v, .int .i64 x, .bool wt] w fun e w' => e = .returned (.bool true) ∧ Below w.heap.size w w' := by
  have hnot : ∀ (x : Bool) (w : World), (Op.unary .not (.bool x)).run Try.prog w = .ok (.bool (!x)) w := fun _ _ => rfl
  obtain ⟨r, bw, line⟩ := P
  obtain ⟨a0, c0, rfl, hL⟩ := h.form
  simp only at hL hn ⊢
  generalize line.length = n at *
  clear h hL
  obtain ⟨W0, e0⟩ : ∃ W, w.alloc (.cells #[.int .i64 r, .bool bw, .slice a0 n c0] 24) = W := ⟨_, rfl⟩
  have HX := hide ((Below.refl w.heap.size w).alloc (Nat.le_refl _) (.cells #[.int .i64 r, .bool bw, .slice a0 n c0] 24))
  have HP := hide (new_block w (.cells #[.int .i64 r, .bool bw, .slice a0 n c0] 24))
  rw [e0] at HX HP
  have HE := hide e0
  clear e0
  have g1 : (700 : Int) < (n : Int) := by omega
  clear hn
  go_enter Try.func4, Try.ntmps4
  go_upto_region 1 with fail
  rw [unhide HE]
  clear HE
  go_wp2_with (go_at_call 8; refine (begun_any _).mono ?_; rintro e w1 ⟨rfl, hb1⟩; have HX1 := hide (Below.next (unhide HX) hb1 (Nat.le_refl _)); obtain ⟨⟨p0, p1, p2⟩, -, pl⟩ := block3 (keep_below (unhide HP) hb1); clear hb1)
  go_ret
  exact ⟨rfl, unhide HX1⟩

theorem leaves_walk (w : World) (v : Value) (P : Lk) (x : Int) (wt : Bool) (h : IsLock w v P) (_ : P.line.length * 24 ≤ 140737488355328) :
    Calls Try.prog 4 #[v, .int .i64 x, .bool wt] w fun e w' => e = .returned (.bool true) ∧ Below w.heap.size w w' := by
  by_cases h1 : 700 < P.line.length
  · exact leaves_early w v P x wt h h1
  have hn : P.line.length ≤ 700 := by omega
  by_cases hf : (lockF P).1 = 0
  · cases wt with
    | true =>
      cases hb : P.writer with
      | true =>
        cases hi : P.line.any (isOfP x) with
        | true => exact leaves_w_in w v P x h hn hf hb hi
        | false => exact leaves_w_out w v P x h hn hf hb hi
      | false =>
        cases hi : P.line.any (isOfP x) with
        | true => exact leaves_n0_in w v P x h hn hf hb hi
        | false => exact leaves_n0_out w v P x h hn hf hb hi
    | false =>
      by_cases hb : 0 < P.readers
      · cases hi : P.line.any (isOfP x) with
        | true => exact leaves_r_in w v P x h hn hf hb hi
        | false => exact leaves_r_out w v P x h hn hf hb hi
      · cases hi : P.line.any (isOfP x) with
        | true => exact leaves_n1_in w v P x h hn hf hb hi
        | false => exact leaves_n1_out w v P x h hn hf hb hi
  · exact leaves_A w v P x wt h hn hf
end Go.Proofs.Ytdpcbmekplcllaa
