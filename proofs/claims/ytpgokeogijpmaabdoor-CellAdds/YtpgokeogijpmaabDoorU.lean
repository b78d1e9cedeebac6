/-
  The spots behind so many ops, in memory: lemmas on worlds for cell.Ends.
-/
import Derived.Test.YtpgokeogijpmaabDoorT
namespace Go.Proofs.YtpgokeogijpmaabDoor
open Go.RowKit

/-- The spots that so many ops lead to. -/
def spotsAfter (fmt : Int → List Int) (tss : List (List Op4)) (zs : List Int) : Nat → List Spot
  | 0 => [⟨List.replicate tss.length 0, zs⟩]
  | r + 1 => outerTo fmt tss (spotsAfter fmt tss zs r) (spotsAfter fmt tss zs r).length

/-- The slice v reads as the spots sps. -/
def SpotsAt (w : World) (v : Value) (sps : List Spot) : Prop :=
  ∃ (sb so sc : Nat) (VD VM : Nat → Value), v = .slice (some ⟨sb, so, none⟩) sps.length sc ∧ sb < w.heap.size ∧ (∀ j, j < sps.length → w.cell? ⟨sb, so + j * 2, none⟩ = some (VD j)) ∧ (∀ j, j < sps.length → w.cell? ⟨sb, so + j * 2 + 1, none⟩ = some (VM j)) ∧
    ∀ j, j < sps.length → IsInts w (VD j) (spotAt sps j).d ∧ IsInts w (VM j) (spotAt sps j).m

theorem MemAt.ints {w : World} {v : Value} {g : Nat} {zs : List Int} (h : MemAt w v g zs) : IsInts w v zs := Rd.of_owns (h.owns (Nat.le_refl g))

theorem SpotsAt.of_next {fmt : Int → List Int} {w wr : World} {t : Value} {next : List Spot} (h : NextInv fmt w wr t next) (hn : 0 < next.length) : SpotsAt wr t next := by
  obtain ⟨h1, h2, h3, VD, VM, h4, h5⟩ := h
  have hr := Rd.of_owns h4
  obtain ⟨b, off, c, hv, hb, hc⟩ := hr.at hn (by decide)
  refine ⟨b, off, c, VD, VM, hv, hb, fun j hj => hc _ _ (spotCells_get hj).1, fun j hj => ?_, fun j hj => ?_⟩
  · rw [Nat.add_assoc]; exact hc _ _ (spotCells_get hj).2
  · obtain ⟨gd, gm, a1, a2, _⟩ := h5 j hj
    exact ⟨a1.ints, a2.ints⟩

theorem SpotsAt.below {w w' : World} {v : Value} {sps : List Spot} (h : SpotsAt w v sps) (hb : Below w.heap.size w w') : SpotsAt w' v sps := by
  obtain ⟨sb, so, sc, VD, VM, hv, hs, h1, h2, h3⟩ := h
  exact ⟨sb, so, sc, VD, VM, hv, Nat.lt_of_lt_of_le hs hb.size, fun j hj => (hb.cell (p := ⟨sb, so + j * 2, none⟩) hs).trans (h1 j hj), fun j hj => (hb.cell (p := ⟨sb, so + j * 2 + 1, none⟩) hs).trans (h2 j hj), fun j hj => ⟨Rd.below (h3 j hj).1 hb, Rd.below (h3 j hj).2 hb⟩⟩

/-- cell.onward, over spots and tasks as they are read. -/
theorem onward_any (w : World) (fmt : Int → List Int) (Bm m : Nat) (v1 v2 : Value) (sps : List Spot) (tss : List (List Op4)) (hBm : w.heap[Bm]? = some (.map ents 5)) (hm0 : 0 < m) (hm : m ≤ 32) (ht0 : 0 < tss.length) (ht : tss.length ≤ 4) (hsn : sps.length ≤ 1073741824)
    (hsp : SpotsAt w v1 sps) (hok : ∀ j, j < sps.length → SpotOk m tss (spotAt sps j)) (htasks : IsTasks w v2 tss)
    (hall : ∀ k, k < tss.length → ∀ i, i < (tss.getD k []).length → wAt m (tss.getD k []) i = 0) (hlen : ∀ k, k < tss.length → (tss.getD k []).length ≤ 5000)
    (hD : ∀ j, j < sps.length → ∀ k, k < tss.length → (spotAt sps j).d.getD k 0 ≠ ((tss.getD k []).length : Int) → ∀ z, z ∈ (stepSpot tss (spotAt sps j) k).d ∨ z ∈ (stepSpot tss (spotAt sps j) k).m → AppOk w fmt z) :
    Calls Tryd.prog 16 #[.map (some Bm), v1, v2] w fun e w' => ∃ t, e = .returned t ∧ NextInv fmt w w' t (outerTo fmt tss sps sps.length) := by
  obtain ⟨sb, so, sc, VD, VM, rfl, hs, h1, h2, h3⟩ := hsp
  obtain ⟨tb, tof, tc, V, rfl, htb, hV, hops⟩ := htasks.at ht0
  exact onward_some w fmt Bm sb so sc tb tof tc m sps tss VD VM V hBm hs htb hm0 hm ht0 ht hsn h1 h2 hV (fun j hj => ⟨(h3 j hj).1, (h3 j hj).2, hok j hj⟩) hops hall hlen hD

/-- The slice v reads as the lists zss. -/
def IsLists (w : World) (v : Value) (zss : List (List Int)) : Prop :=
  ∃ V : Nat → Value, Rd w 1 v zss.length ((List.range zss.length).map V) ∧ ∀ j, j < zss.length → IsInts w (V j) (zss.getD j [])

/-- What is known of the first spot: it lies in a block of its own. -/
def First (wr : World) (d m : List Int) (nd nm : Nat) (v8 : Value) (wA : World) : Prop :=
  ∃ gs gd gm capd capm, v8 = .slice (some ⟨gs, 0, none⟩) 1 1 ∧ Below wr.heap.size wr wA ∧ wA.heap[gs]? = some (.cells #[.slice (some ⟨gd, 0, none⟩) nd capd, .slice (some ⟨gm, 0, none⟩) nm capm] 45 (0, 0)) ∧ MemAt wA (.slice (some ⟨gd, 0, none⟩) nd capd) gd d ∧ MemAt wA (.slice (some ⟨gm, 0, none⟩) nm capm) gm m

theorem First.spots {wr wA : World} {d m : List Int} {nd nm : Nat} {v8 : Value} (h : First wr d m nd nm v8 wA) : SpotsAt wA v8 [⟨d, m⟩] ∧ Below wr.heap.size wr wA := by
  obtain ⟨gs, gd, gm, capd, capm, rfl, hB, hh, hd, hm⟩ := h
  refine ⟨⟨gs, 0, 1, fun _ => .slice (some ⟨gd, 0, none⟩) nd capd, fun _ => .slice (some ⟨gm, 0, none⟩) nm capm, rfl, heap_lt hh, fun j hj => ?_, fun j hj => ?_, fun j hj => ?_⟩, hB⟩
  · obtain rfl : j = 0 := by simp at hj; exact hj
    simp [World.cell?, hh]
  · obtain rfl : j = 0 := by simp at hj; exact hj
    simp [World.cell?, hh]
  · obtain rfl : j = 0 := by simp at hj; exact hj
    exact ⟨hd.ints, hm.ints⟩
end Go.Proofs.YtpgokeogijpmaabDoor
