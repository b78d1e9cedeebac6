/-
  taskmilllaw.LockEnters.
-/
import Derived.Test.YtdpcbmekplcllaaEa
import Derived.Test.YtdpcbmekplcllaaEc
namespace Go.Proofs.Ytdpcbmekplcllaa
open Go.RowKit

set_option maxRecDepth 100000 in
set_option maxHeartbeats 1000000 in
theorem enters_early (w : World) (v : Value) (P : Lk) (x : Int) (wt try_ : Bool) (h : IsLock w v P) (hn : 6000 < P.line.length ∨ (700 < P.line.length ∧ P.line.length < 4999)) :
    Calls Try.prog 3 #[v, .int .i64 x, .bool wt, .bool try_] w fun e w' => e = .returned (.bool true) ∧ Below w.heap.size w w' := by
  have hnot : ∀ (x : Bool) (w : World), (Op.unary .not (.bool x)).run Try.prog w = .ok (.bool (!x)) w := fun _ _ => rfl
  obtain ⟨r, bw, line⟩ := P
  obtain ⟨a0, c0, rfl, hL⟩ := h.form
  simp only at hL hn ⊢
  generalize line.length = n at *
  clear h hL
  obtain ⟨W0, e0⟩ : ∃ W, w.alloc (.cells #[.int .i64 r, .bool bw, .slice a0 n c0] 24) = W := ⟨_, rfl⟩
  have HX := hide ((Below.refl w.heap.size w).alloc (Nat.le_refl _) (.cells #[.int .i64 r, .bool bw, .slice a0 n c0] 24))
  have HP := hide (new_block w (.cells #[.int .i64 r, .bool bw, .slice a0 n c0] 24))
  rw [e0] at HX HP
  have HE := hide e0
  clear e0
  have hq : ((700 : Int) < (n : Int) ∧ ¬ (n : Int) < 4999 ∧ (6000 : Int) < (n : Int)) ∨ ((700 : Int) < (n : Int) ∧ (n : Int) < 4999 ∧ ¬ (6000 : Int) < (n : Int)) := by omega
  clear hn
  rcases hq with ⟨g1, g2, g3⟩ | ⟨g1, g2, g3⟩
  all_goals
    go_enter Try.func3, Try.ntmps3
    go_upto_region 1 with fail
    rw [unhide HE]
    clear HE
    go_wp2_with (go_at_call 8; refine (begun_any _).mono ?_; rintro e w1 ⟨rfl, hb1⟩; have HX1 := hide (Below.next (unhide HX) hb1 (Nat.le_refl _)); obtain ⟨⟨p0, p1, p2⟩, -, pl⟩ := block3 (keep_below (unhide HP) hb1); clear hb1)
    go_ret
    exact ⟨rfl, unhide HX1⟩

theorem enters_walk (w : World) (v : Value) (P : Lk) (x : Int) (wt try_ : Bool) (h : IsLock w v P) (_ : P.line.length * 24 ≤ 140737488355328) :
    Calls Try.prog 3 #[v, .int .i64 x, .bool wt, .bool try_] w fun e w' => e = .returned (.bool true) ∧ Below w.heap.size w w' := by
  by_cases h1 : 6000 < P.line.length ∨ (700 < P.line.length ∧ P.line.length < 4999)
  · exact enters_early w v P x wt try_ h h1
  have hn : P.line.length ≤ 6000 := by omega
  have hn2 : P.line.length ≤ 700 ∨ 4999 ≤ P.line.length := by omega
  by_cases hf : (lockF P).1 = 0
  · by_cases hx : x < 1
    · exact enters_B w v P x wt try_ h hn hn2 hf hx
    · cases hi : P.line.any (isOfP x) with
      | true => exact enters_C w v P x wt try_ h hn hn2 hf hx hi
      | false =>
        by_cases hm : P.line.length = 5000
        · exact enters_D w v P x wt try_ h hn hn2 hf hx hi hm
        · by_cases hm2 : P.readers = 1000000000
          · exact enters_G w v P x wt try_ h hn hn2 hf hx hi hm hm2
          · have he : (enterF P x).1 = 0 := by
              unfold enterF
              rw [if_neg (by simpa using hf), if_neg hx, if_neg (by rw [hi]; simp), if_neg (fun h => h.elim hm hm2)]
            rcases hn2 with h2 | h2
            · exact enters_E1 w v P x wt try_ h hn h2 he
            · exact enters_E2 w v P x wt try_ h hn h2 he
  · exact enters_A w v P x wt try_ h hn hn2 hf
end Go.Proofs.Ytdpcbmekplcllaa
