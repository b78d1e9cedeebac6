/-
  taskmilllaw.OrderLamport: its walk.
-/
import Derived.Test.YtbnmeeabpjmcoaaLv1
import Derived.Test.YtbnmeeabpjmcoaaLv2
import Derived.Test.YtbnmeeabpjmcoaaLv3
import Derived.Test.YtbnmeeabpjmcoaaLv4
namespace Go.Proofs.Ytbnmeeabpjmcoaa
open Go.RowKit

theorem lamport_walk (w : World) (v0 : Value) (l : List Ev) (v1 : Value) (hs : List Int) (z2 z3 z4 : Int) (hl : IsL KE w v0 l) (_ml : l.length * 32 ≤ 140737488355328) (hh : IsL KI w v1 hs) (_mh : hs.length * 8 ≤ 140737488355328) :
    Calls Try.prog 4 #[v0, v1, .int .i64 z2, .int .i64 z3, .int .i64 z4] w fun e w' => e = .returned (.bool true) ∧ Below w.heap.size w w' := by
  obtain ⟨a0, c0, rfl⟩ := hl.form
  obtain ⟨a1, c1, rfl⟩ := hh.form
  by_cases h1 : 300 < l.length
  · exact lam_long w a0 _ c0 a1 _ c1 z2 z3 z4 h1
  · by_cases h2 : 100 < hs.length
    · exact lam_many w a0 _ c0 a1 _ c1 z2 z3 z4 h1 h2
    · obtain ⟨⟨fc, fa⟩, hf⟩ : ∃ X, checkF hs l = X := ⟨_, rfl⟩
      by_cases hfc : fc = 0
      · have hg : GoodT hs l := good_of (by rw [hf]; exact hfc)
        by_cases ho : z2 < 0 ∨ z3 < 0 ∨ z4 < 0 ∨ (l.length : Int) ≤ z2 ∨ (l.length : Int) ≤ z3 ∨ (l.length : Int) ≤ z4
        · exact lam_out w a0 _ c0 a1 _ c1 l hs hl hh z2 z3 z4 h1 h2 hg ho
        · obtain ⟨i, rfl⟩ : ∃ i : Nat, z2 = (i : Int) := ⟨z2.toNat, by omega⟩
          obtain ⟨j, rfl⟩ : ∃ i : Nat, z3 = (i : Int) := ⟨z3.toNat, by omega⟩
          obtain ⟨k, rfl⟩ : ∃ i : Nat, z4 = (i : Int) := ⟨z4.toNat, by omega⟩
          have hi : i < l.length := by omega
          have hj : j < l.length := by omega
          have hk : k < l.length := by omega
          by_cases e : i = j
          · exact lam_same w a0 _ c0 a1 _ c1 l hs hl hh h1 h2 hg i j k hi hj hk _ _ _ (by rw [e]; simp [befL]) rfl rfl rfl e
          · cases hij : befL hs l i j with
            | false => exact lam_no w a0 _ c0 a1 _ c1 l hs hl hh h1 h2 hg i j k hi hj hk _ _ _ hij rfl rfl rfl e
            | true =>
              have hlt : i < j := by
                have h0 := hij
                simp only [befL, Bool.and_eq_true, decide_eq_true_eq] at h0
                exact h0.1
              have hji : befL hs l j i = false := by
                unfold befL
                rw [decide_eq_false (by omega), Bool.false_and]
              cases hjk : befL hs l j k with
              | false => exact lam_yes w a0 _ c0 a1 _ c1 l hs hl hh h1 h2 hg i j k hi hj hk _ hij hjk rfl hji e
              | true => exact lam_all w a0 _ c0 a1 _ c1 l hs hl hh h1 h2 hg i j k hi hj hk hij hjk (bef_trans hs l hg.tasks hk hij hjk) hji e
      · exact lam_fault w a0 _ c0 a1 _ c1 l hs hl hh z2 z3 z4 h1 h2 fc fa hf hfc
end Go.Proofs.Ytbnmeeabpjmcoaa
