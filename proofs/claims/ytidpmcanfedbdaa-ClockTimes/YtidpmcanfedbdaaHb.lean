/-
  What Pass, Set and Stop answer, in one piece.
-/
import Derived.Test.YtidpmcanfedbdaaHa
namespace Go.Proofs.Ytidpmcanfedbdaa
open Go.RowKit

/-- What Pass answers: the fault, the clock, what went off. -/
def passR (now next : Int) (xs : List Al) (ticks : Int) : (Int × Int) × (Int × Int × List Al) × List (Int × Int) :=
  if (passF now next xs ticks).1 ≠ 0 then (passF now next xs ticks, (0, 0, []), []) else
    match runL (now + ticks) 5000 next xs [] with
    | none => ((9, 0), (0, 0, []), [])
    | some r => ((0, 0), (now + ticks, r.1, r.2.1), r.2.2)
theorem pass_any (w : World) (v : Value) (now next : Int) (xs : List Al) (ticks : Int) (h : IsC w v now next xs) (hn : xs.length ≤ maxLen) (F0 F1 n1 x1 : Int) (zs : List Al) (td : List (Int × Int)) (hR : passR now next xs ticks = ((F0, F1), (n1, x1, zs), td)) :
    Calls Try.prog 20 #[v, .int .i64 ticks] w fun e w' => ∃ av cv a c, e = .returned (.tuple #[.agg #[.int .i64 n1, .int .i64 x1, .slice av zs.length cv], .slice a td.length c, .agg #[.int .i64 F0, .int .i64 F1]]) ∧ IsL KA w' (.slice av zs.length cv) zs ∧ IsL KO w' (.slice a td.length c) td ∧ Below w.heap.size w w' := by
  unfold passR at hR
  by_cases hf : (passF now next xs ticks).1 ≠ 0
  · rw [if_pos hf] at hR
    refine (pass_fault w v now next xs ticks h hn hf).mono fun e w' ⟨h1, h2⟩ => ?_
    obtain ⟨hF, hC⟩ := Prod.mk.inj hR
    cases hC
    rw [hF] at h1
    exact ⟨none, 0, none, 0, h1, isl_nil _, isl_nil _, h2⟩
  · rw [if_neg hf] at hR
    refine (pass_run w v now next xs ticks h hn (by omega)).mono fun e w' ⟨h1, h2, h3⟩ => ?_
    cases hr : runL (now + ticks) 5000 next xs [] with
    | none =>
      rw [hr] at hR
      cases hR
      exact ⟨none, 0, none, 0, h2 hr, isl_nil _, isl_nil _, h3⟩
    | some r =>
      obtain ⟨r1, r2, r3⟩ := r
      rw [hr] at hR
      cases hR
      obtain ⟨v', a, c, h4, h5, h6⟩ := h1 _ _ _ hr
      obtain ⟨av, cv, rfl⟩ := h5.1.form
      exact ⟨av, cv, a, c, h4, h5.1, h6.isl, h3⟩
/-- What Set answers: the fault, the clock, whether the alarm was there. -/
def setR (now next : Int) (xs : List Al) (id after period : Int) : (Int × Int) × (Int × Int × List Al) × Bool :=
  if (setF now next xs id after period).1 ≠ 0 then (setF now next xs id after period, (0, 0, []), false) else ((0, 0), (now, next + 1, insL (id, now + after, period, next) (noL id xs)), decide ((noL id xs).length < xs.length))
theorem set_any (w : World) (v : Value) (now next : Int) (xs : List Al) (id after period : Int) (h : IsC w v now next xs) (hn : xs.length ≤ maxLen) (F0 F1 n1 x1 : Int) (zs : List Al) (b : Bool) (hR : setR now next xs id after period = ((F0, F1), (n1, x1, zs), b)) :
    Calls Try.prog 12 #[v, .int .i64 id, .int .i64 after, .int .i64 period] w fun e w' => ∃ av cv, e = .returned (.tuple #[.agg #[.int .i64 n1, .int .i64 x1, .slice av zs.length cv], .bool b, .agg #[.int .i64 F0, .int .i64 F1]]) ∧ IsL KA w' (.slice av zs.length cv) zs ∧ Below w.heap.size w w' := by
  unfold setR at hR
  by_cases hf : (setF now next xs id after period).1 ≠ 0
  · rw [if_pos hf] at hR
    refine (set_fault w v now next xs id after period h hn hf).mono fun e w' ⟨h1, h2⟩ => ?_
    obtain ⟨hF, hC⟩ := Prod.mk.inj hR
    cases hC
    rw [hF] at h1
    exact ⟨none, 0, h1, isl_nil _, h2⟩
  · rw [if_neg hf] at hR
    refine (set_ok w v now next xs id after period h hn (by omega)).mono fun e w' ⟨a, c, h1, h2, h3⟩ => ?_
    cases hR
    refine ⟨a, c, ?_, ?_, h3⟩
    · rw [ins_len]; exact h1
    · rw [ins_len]; exact h2.isl
/-- What Stop answers. -/
def stopR (now next : Int) (xs : List Al) (id : Int) : (Int × Int) × (Int × Int × List Al) × Bool :=
  if (clockF now next xs).1 ≠ 0 then (clockF now next xs, (0, 0, []), false) else ((0, 0), (now, next, noL id xs), decide ((noL id xs).length < xs.length))
theorem stop_any (w : World) (v : Value) (now next : Int) (xs : List Al) (id : Int) (h : IsC w v now next xs) (hn : xs.length ≤ maxLen) (F0 F1 n1 x1 : Int) (zs : List Al) (b : Bool) (hR : stopR now next xs id = ((F0, F1), (n1, x1, zs), b)) :
    Calls Try.prog 13 #[v, .int .i64 id] w fun e w' => ∃ av cv, e = .returned (.tuple #[.agg #[.int .i64 n1, .int .i64 x1, .slice av zs.length cv], .bool b, .agg #[.int .i64 F0, .int .i64 F1]]) ∧ IsL KA w' (.slice av zs.length cv) zs ∧ Below w.heap.size w w' := by
  unfold stopR at hR
  by_cases hf : (clockF now next xs).1 ≠ 0
  · rw [if_pos hf] at hR
    refine (stop_fault w v now next xs id h hn hf).mono fun e w' ⟨h1, h2⟩ => ?_
    obtain ⟨hF, hC⟩ := Prod.mk.inj hR
    cases hC
    rw [hF] at h1
    exact ⟨none, 0, h1, isl_nil _, h2⟩
  · rw [if_neg hf] at hR
    refine (stop_ok w v now next xs id h hn (clockF_good (by omega)).2).mono fun e w' ⟨a, c, h1, h2, h3⟩ => ?_
    cases hR
    exact ⟨a, c, h1, h2.isl, h3⟩
theorem passR_ok {now next : Int} {xs : List Al} {ticks F0 F1 n1 x1 : Int} {zs : List Al} {td : List (Int × Int)} (h : passR now next xs ticks = ((F0, F1), (n1, x1, zs), td)) (h0 : F0 = 0) : Good now next xs ∧ 0 ≤ ticks ∧ ticks ≤ 1000000000 ∧ now + ticks ≤ 1000000000 ∧ n1 = now + ticks ∧ runL (now + ticks) 5000 next xs [] = some (x1, zs, td) ∧ F1 = 0 := by
  unfold passR at h
  by_cases hf : (passF now next xs ticks).1 ≠ 0
  · rw [if_pos hf] at h
    have := congrArg (fun r => r.1.1) h
    simp only at this
    omega
  · rw [if_neg hf] at h
    obtain ⟨-, g, h1, h2, h3⟩ := passF_good (now := now) (next := next) (xs := xs) (ticks := ticks) (by omega)
    cases hr : runL (now + ticks) 5000 next xs [] with
    | none => rw [hr] at h; have := congrArg (fun r => r.1.1) h; simp only at this; omega
    | some r =>
      rw [hr] at h
      obtain ⟨r1, r2, r3⟩ := r
      cases h
      exact ⟨g, h1, h2, h3, rfl, rfl, rfl⟩
theorem passR_of {now next : Int} {xs : List Al} {ticks : Int} (g : Good now next xs) (h1 : 0 ≤ ticks ∧ ticks ≤ 1000000000) (h2 : now + ticks ≤ 1000000000) {x1 : Int} {zs : List Al} {td : List (Int × Int)} (hr : runL (now + ticks) 5000 next xs [] = some (x1, zs, td)) : passR now next xs ticks = ((0, 0), (now + ticks, x1, zs), td) := by
  unfold passR
  rw [passF_fine g h1 h2, if_neg (by simp), hr]
/-- What Pass answers where its clock and ticks are well: nothing wrong, or too much. -/
theorem passR_much {now next : Int} {xs : List Al} {ticks F0 F1 n1 x1 : Int} {zs : List Al} {td : List (Int × Int)} (h : passR now next xs ticks = ((F0, F1), (n1, x1, zs), td)) (g : Good now next xs) (h1 : 0 ≤ ticks ∧ ticks ≤ 1000000000) (h0 : F0 ≠ 0) : F0 = 9 ∧ F1 = 0 ∧ (1000000000 < now + ticks ∨ runL (now + ticks) 5000 next xs [] = none) := by
  unfold passR at h
  by_cases h2 : now + ticks ≤ 1000000000
  · rw [passF_fine g h1 h2, if_neg (by simp)] at h
    cases hr : runL (now + ticks) 5000 next xs [] with
    | none => rw [hr] at h; cases h; exact ⟨rfl, rfl, Or.inr rfl⟩
    | some r => rw [hr] at h; cases h; exact absurd rfl h0
  · have hp : passF now next xs ticks = (9, 0) := by
      unfold passF
      rw [good_clockF g, if_neg (by simp), if_neg (by omega), if_pos (by omega)]
    rw [hp, if_pos (by simp)] at h
    cases h
    exact ⟨rfl, rfl, Or.inl (by omega)⟩

end Go.Proofs.Ytidpmcanfedbdaa
