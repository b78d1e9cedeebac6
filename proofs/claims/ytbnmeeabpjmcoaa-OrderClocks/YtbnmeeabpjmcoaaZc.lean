/-
  taskmillref.Edges: what hangs on no pipe.
-/
import Derived.Test.YtbnmeeabpjmcoaaZb
import Derived.Laws.OwnMore
namespace Go.Proofs.Ytbnmeeabpjmcoaa
open Go.RowKit

theorem make_rows3 (n : Nat) (hn : n ≤ 2000) : ∃ A : Array Value, A.toList = List.replicate n (.slice none 0 0) ∧ ∀ w : World, (Instr.makeSlice 30 (.int .i64 (n : Int)) (.int .i64 (n : Int))).run Try.prog w = .ok (.slice (some ⟨w.heap.size, 0, none⟩) n n) (w.alloc (.cells A 23)) := by
  have hinf : (Try.prog.info? 23).map (fun i => (i.zero, i.size, i.bytes)) = some (some (.slice none 0 0), 1, 24) := by kernel_rfl
  obtain ⟨i0, hi, h0, h1, h2⟩ := info_parts hinf
  refine ⟨madeCells (Value.slice none 0 0).cells (n * i0.size), by rw [h1, Nat.mul_one]; exact toList_madeCells_one _ _, fun w => ?_⟩
  have := run_makeSlice (P := Try.prog) w 30 23 i0 (.slice none 0 0) Try.underlying30 hi h0 .i64 .i64 (n : Int) (n : Int) (by omega) (by omega) (by rw [h1]; omega) (by rw [h2]; omega) (by omega)
  simpa using this
theorem edges_begin (_w W : World) (G n : Nat) (A : Array Value) (hA : A.toList = List.replicate n (.slice none 0 0)) (hG : W.heap[G]? = some (.cells A 23 (0, 0))) (hE : W.heap[G + 1]? = some (.cells #[.slice (some ⟨G, 0, none⟩) n n] 30 (0, 0))) (S : Nat → Nat → Prop) (hS : ∀ a b, ¬ S a b) : EdSt (G + 1 + 1) W (G + 1) G n S 0 := by
  have hsz : A.size = n := by rw [← Array.length_toList, hA, List.length_replicate]
  refine ⟨fun _ => .slice none 0 0, fun _ => [], ⟨hE, Nat.lt_succ_self _, by have := size_of hE; omega, by omega, there_block hG (by omega), size_of hG, by omega, fun i hi => ?_, fun i hi => own_nil _ _, fun i j _ _ _ k hk => (by cases hk)⟩, fun a ha z hz => (by cases hz), fun a ha b _ _ h => (hS a b h).elim, fun a ha => Nat.le_refl _⟩
  simp only [World.cell?, hG]
  have : A[i]? = some (.slice none 0 0) := by
    rw [← Array.getElem?_toList, hA, List.getElem?_replicate]
    simp [hi]
  simpa using this
/-- What hangs on locks and groups. -/
def EL (l : List Ev) (a b : Nat) : Prop :=
    ((l.getD a ev0).obj = (l.getD b ev0).obj ∧ (l.getD a ev0).op = 18 ∧ (l.getD b ev0).op = 17 ∧ ((l.getD a ev0).val = 1 ∨ (l.getD b ev0).val = 1))
  ∨ ((l.getD a ev0).obj = (l.getD b ev0).obj ∧ (l.getD a ev0).op = 19 ∧ (l.getD b ev0).op = 20)
theorem ea_iff {l : List Ev} {a b : Nat} : EA l a b ↔ NextIs l (l.getD a ev0).task a b ∨ ((l.getD a ev0).op = 11 ∧ NextIs l (l.getD a ev0).val a b) ∨ EL l a b := Iff.rfl
theorem next_set {l : List Ev} {t : Int} {i : Nat} {r : Int} (h : NextR l t i r) {y : Nat} (hy : y < l.length) : (y : Int) = r ↔ NextIs l t i y := by
  rcases h with ⟨b, rfl, hb, hN⟩ | ⟨rfl, hN⟩
  · constructor
    · intro e
      obtain rfl : y = b := by omega
      exact hN
    · intro hy2
      rw [hN.uniq hy2]
  · constructor
    · intro e; omega
    · intro hy2; exact absurd hy2 (hN y hy)
theorem next_lt {l : List Ev} {t : Int} {i : Nat} {r : Int} (h : NextR l t i r) : r < (l.length : Int) := by
  rcases h with ⟨b, rfl, hb, _⟩ | ⟨rfl, _⟩ <;> omega

end Go.Proofs.Ytbnmeeabpjmcoaa
