/-
  Rows of rows of numbers; a heap as it is read.
-/
import Derived.Test.YtmkehjncnaokoaaD
import Derived.Test.YtmkehjncnaokoaaM
namespace Go.Proofs.Ytmkehjncnaokoaa
open Go.RowKit

/-- A slice, as a value. -/
abbrev Sl := Option Addr × Nat × Nat
def sl (u : Sl) : Value := .slice u.1 u.2.1 u.2.2
theorem info_parts {t : TypeId} {z : Value} {s b : Nat} (h : (Try.prog.info? t).map (fun i => (i.zero, i.size, i.bytes)) = some (some z, s, b)) : ∃ i0, Try.prog.info? t = some i0 ∧ i0.zero = some z ∧ i0.size = s ∧ i0.bytes = b := by
  cases e : Try.prog.info? t with
  | none => rw [e] at h; cases h
  | some i =>
    rw [e] at h
    simp only [Option.map_some, Option.some.injEq, Prod.mk.injEq] at h
    exact ⟨i, rfl, h.1, h.2.1, h.2.2⟩
def KL : Kind Sl := ⟨fun u => [sl u], 1, 23, 22, 24, (none, 0, 0)⟩
theorem infoKL : (Try.prog.info? 23).map (fun i => (i.zero, i.size, i.bytes)) = some (some (.slice none 0 0), 1, 24) := by kernel_rfl
theorem kl : KL.Ok := by
  refine ⟨fun _ => rfl, fun x u hu => ?_, by decide, by decide, Try.underlying22, ?_⟩
  · simp only [KL, List.mem_singleton] at hu; subst hu; rfl
  · obtain ⟨i0, hi, h0, h1, h2⟩ := info_parts infoKL
    exact ⟨i0, _, hi, h0, h1, h2, rfl⟩
def uAt (us : List Sl) (i : Nat) : Sl := us.getD i (none, 0, 0)
theorem Lies.sls {w : World} {b off : Nat} {us : List Sl} (h : Lies KL w b off us) {j : Nat} (hj : j < us.length) : w.cell? ⟨b, off + j, none⟩ = some (sl (uAt us j)) := by
  have := h j 0 (sl (us.getD j (none, 0, 0))) hj rfl
  rw [show off + j * KL.k + 0 = off + j by show off + j * 1 + 0 = _; omega] at this
  exact this
/-- The slice v reads as the rows os; us: their slices. -/
structure IsLL (w : World) (v : Value) (us : List Sl) (os : List (List Int)) : Prop where
  row : IsL KL w v us
  len : us.length = os.length
  each : ∀ i, i < os.length → IsL KI w (sl (uAt us i)) (os.getD i [])
theorem IsLL.below {w w' : World} {v : Value} {us : List Sl} {os : List (List Int)} (h : IsLL w v us os) (hb : Below w.heap.size w w') : IsLL w' v us os := ⟨h.row.below hb, h.len, fun i hi => (h.each i hi).below hb⟩
/-- A row's slice, of a heap that is read. -/
theorem IsLL.at {w : World} {v : Value} {us : List Sl} {os : List (List Int)} (h : IsLL w v us os) {i : Nat} (hi : i < os.length) : ∃ a c, uAt us i = (a, (os.getD i []).length, c) ∧ IsL KI w (.slice a (os.getD i []).length c) (os.getD i []) := by
  have h1 := h.each i hi
  obtain ⟨⟨a, n, c⟩, hu⟩ : ∃ X, uAt us i = X := ⟨_, rfl⟩
  rw [hu] at h1
  have := h1.len
  simp only [sl] at h1
  subst this
  exact ⟨a, c, hu, h1⟩
end Go.Proofs.Ytmkehjncnaokoaa
