/-
  clock.Pass, as taskmilllaw.ClockTimes meets it.
-/
import Derived.Test.YtidpmcanfedbdaaTm
import Derived.Test.YtidpmcanfedbdaaTo
import Derived.Test.YtidpmcanfedbdaaHb
namespace Go.Proofs.Ytidpmcanfedbdaa
open Go.RowKit

theorem pass_cases {now next tk : Int} {xs : List Al} (g : Good now next xs) (h0 : 0 ≤ tk) (h1 : tk ≤ 2000) : (passR now next xs tk = ((9, 0), (0, 0, []), [])) ∨ (now + tk ≤ 1000000000 ∧ (passF now next xs tk).1 = 0 ∧ ∃ nx zs td, runL (now + tk) 5000 next xs [] = some (nx, zs, td)) := by
  by_cases h2 : now + tk ≤ 1000000000
  · have hf := passF_fine g ⟨h0, by omega⟩ h2
    cases hr : runL (now + tk) 5000 next xs [] with
    | none =>
      refine Or.inl ?_
      unfold passR
      rw [hf, if_neg (by simp), hr]
    | some r => exact Or.inr ⟨h2, by rw [hf], r.1, r.2.1, r.2.2, rfl⟩
  · refine Or.inl ?_
    have hf : passF now next xs tk = (9, 0) := by
      unfold passF
      rw [good_clockF g, if_neg (by simp), if_neg (by omega), if_pos (by omega)]
    unfold passR
    rw [hf, if_pos (by decide)]
/-- Pass, where it goes through: its lists lie in new memory. -/
theorem pass_new (w : World) (v : Value) (now next : Int) (xs : List Al) (tk : Int) (h : IsC w v now next xs) (hn : xs.length ≤ maxLen) (hf : (passF now next xs tk).1 = 0) (nx : Int) (zs : List Al) (td : List (Int × Int)) (hr : runL (now + tk) 5000 next xs [] = some (nx, zs, td)) :
    Calls Try.prog 20 #[v, .int .i64 tk] w fun e w' => ∃ a1 c1 a c, e = .returned (.tuple #[.agg #[.int .i64 (now + tk), .int .i64 nx, .slice a1 zs.length c1], .slice a td.length c, .agg #[.int .i64 0, .int .i64 0]]) ∧ New KA w.heap.size w' (.slice a1 zs.length c1) zs ∧ Own KO w.heap.size w' (.slice a td.length c) td ∧ Below w.heap.size w w' := by
  refine (pass_run w v now next xs tk h hn hf).mono fun e w' ⟨h1, _, h3⟩ => ?_
  obtain ⟨v', a, c, e1, e2, e3⟩ := h1 _ _ _ hr
  obtain ⟨a1, c1, ev⟩ := e2.1.form
  subst ev
  exact ⟨a1, c1, a, c, e1, e2, e3, h3⟩
/-- Pass, where it becomes too much. -/
theorem pass_much (w : World) (v : Value) (now next : Int) (xs : List Al) (tk : Int) (h : IsC w v now next xs) (hn : xs.length ≤ maxLen) (hR : passR now next xs tk = ((9, 0), (0, 0, []), [])) :
    Calls Try.prog 20 #[v, .int .i64 tk] w fun e w' => ∃ a1 c1 a c, e = .returned (.tuple #[.agg #[.int .i64 0, .int .i64 0, .slice a1 0 c1], .slice a 0 c, .agg #[.int .i64 9, .int .i64 0]]) ∧ Below w.heap.size w w' :=
  (pass_any w v now next xs tk h hn 9 0 0 0 [] [] hR).mono fun _ _ ⟨a1, c1, a, c, h1, _, _, h4⟩ => ⟨a1, c1, a, c, h1, h4⟩

end Go.Proofs.Ytidpmcanfedbdaa
