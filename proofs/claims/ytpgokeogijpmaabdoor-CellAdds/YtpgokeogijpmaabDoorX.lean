/-
  taskmilllaw.cellBegun: the document's example holds.
-/
import Derived.Test.YtpgokeogijpmaabDoorW
namespace Go.Proofs.YtpgokeogijpmaabDoor
open Go.RowKit

def fmt1 (z : Int) : List Int := [48 + z]

theorem appOk012 (w : World) (z : Int) (h : z = 0 ∨ z = 1 ∨ z = 2) : AppOk w fmt1 z := by
  refine ⟨by simp [fmt1], fun W base v n xs _ hown hb hn => ?_⟩
  rcases h with rfl | rfl | rfl
  · exact appInt0 W base v n xs hown hb hn
  · exact appInt1 W base v n xs hown hb hn
  · exact appInt2 W base v n xs hown hb hn

def opA : Op4 := ⟨3, 0, 1, 0⟩
def tss2 : List (List Op4) := [[opA], [opA]]

theorem sp0 : spotsAfter fmt1 tss2 [0] 0 = [⟨[0, 0], [0]⟩] := rfl
theorem sp1 : spotsAfter fmt1 tss2 [0] 1 = [⟨[1, 0], [1]⟩, ⟨[0, 1], [1]⟩] := by kernel_rfl
theorem sp2 : spotsAfter fmt1 tss2 [0] 2 = [⟨[1, 1], [2]⟩] := by kernel_rfl

theorem ok0 : ∀ r, r ≤ 2 → 0 < (spotsAfter fmt1 tss2 [0] r).length ∧ (spotsAfter fmt1 tss2 [0] r).length ≤ 1073741824 ∧ ∀ j, j < (spotsAfter fmt1 tss2 [0] r).length → SpotOk 1 tss2 (spotAt (spotsAfter fmt1 tss2 [0] r) j) := by
  intro r hr
  have h : r = 0 ∨ r = 1 ∨ r = 2 := by omega
  rcases h with rfl | rfl | rfl
  · rw [sp0]
    refine ⟨by simp, by simp, fun j hj => ?_⟩
    obtain rfl : j = 0 := by simpa using hj
    refine ⟨rfl, rfl, fun k hk => ?_⟩
    have h : k = 0 ∨ k = 1 := by simp [tss2] at hk; omega
    rcases h with rfl | rfl <;> exact ⟨by decide, by decide⟩
  · rw [sp1]
    refine ⟨by simp, by simp, fun j hj => ?_⟩
    have h : j = 0 ∨ j = 1 := by simp at hj; omega
    rcases h with rfl | rfl
    · refine ⟨rfl, rfl, fun k hk => ?_⟩
      have h : k = 0 ∨ k = 1 := by simp [tss2] at hk; omega
      rcases h with rfl | rfl <;> exact ⟨by decide, by decide⟩
    · refine ⟨rfl, rfl, fun k hk => ?_⟩
      have h : k = 0 ∨ k = 1 := by simp [tss2] at hk; omega
      rcases h with rfl | rfl <;> exact ⟨by decide, by decide⟩
  · rw [sp2]
    refine ⟨by simp, by simp, fun j hj => ?_⟩
    obtain rfl : j = 0 := by simpa using hj
    refine ⟨rfl, rfl, fun k hk => ?_⟩
    have h : k = 0 ∨ k = 1 := by simp [tss2] at hk; omega
    rcases h with rfl | rfl <;> exact ⟨by decide, by decide⟩

/-- The numbers that come up are 0, 1 and 2. -/
theorem num0 : ∀ r, r < 2 → ∀ j, j < (spotsAfter fmt1 tss2 [0] r).length → ∀ k, k < tss2.length → (spotAt (spotsAfter fmt1 tss2 [0] r) j).d.getD k 0 ≠ ((tss2.getD k []).length : Int) → ∀ z, z ∈ (stepSpot tss2 (spotAt (spotsAfter fmt1 tss2 [0] r) j) k).d ∨ z ∈ (stepSpot tss2 (spotAt (spotsAfter fmt1 tss2 [0] r) j) k).m → z = 0 ∨ z = 1 ∨ z = 2 := by
  have e00 : stepSpot tss2 ⟨[0, 0], [0]⟩ 0 = ⟨[1, 0], [1]⟩ := by kernel_rfl
  have e01 : stepSpot tss2 ⟨[0, 0], [0]⟩ 1 = ⟨[0, 1], [1]⟩ := by kernel_rfl
  have e11 : stepSpot tss2 ⟨[1, 0], [1]⟩ 1 = ⟨[1, 1], [2]⟩ := by kernel_rfl
  have e20 : stepSpot tss2 ⟨[0, 1], [1]⟩ 0 = ⟨[1, 1], [2]⟩ := by kernel_rfl
  intro r hr j hj k hk hne z hz
  have h : r = 0 ∨ r = 1 := by omega
  have h2 : k = 0 ∨ k = 1 := by simp [tss2] at hk; omega
  rcases h with rfl | rfl
  · rw [sp0] at hj hne hz
    obtain rfl : j = 0 := by simpa using hj
    have e : spotAt [⟨[0, 0], [0]⟩] 0 = ⟨[0, 0], [0]⟩ := rfl
    rw [e] at hz
    rcases h2 with rfl | rfl
    · rw [e00] at hz; simp at hz; omega
    · rw [e01] at hz; simp at hz; omega
  · rw [sp1] at hj hne hz
    have h3 : j = 0 ∨ j = 1 := by simp at hj; omega
    rcases h3 with rfl | rfl
    · have e : spotAt [⟨[1, 0], [1]⟩, ⟨[0, 1], [1]⟩] 0 = ⟨[1, 0], [1]⟩ := rfl
      rw [e] at hz hne
      rcases h2 with rfl | rfl
      · exact absurd rfl hne
      · rw [e11] at hz; simp at hz; omega
    · have e : spotAt [⟨[1, 0], [1]⟩, ⟨[0, 1], [1]⟩] 1 = ⟨[0, 1], [1]⟩ := rfl
      rw [e] at hz hne
      rcases h2 with rfl | rfl
      · rw [e20] at hz; simp at hz; omega
      · exact absurd rfl hne

theorem all0 : ∀ k, k < tss2.length → ∀ i, i < (tss2.getD k []).length → wAt 1 (tss2.getD k []) i = 0 := by
  have e0 : wAt 1 (tss2.getD 0 []) 0 = 0 := by kernel_rfl
  have e1 : wAt 1 (tss2.getD 1 []) 0 = 0 := by kernel_rfl
  intro k hk i hi
  have h : k = 0 ∨ k = 1 := by simp [tss2] at hk; omega
  rcases h with rfl | rfl
  · obtain rfl : i = 0 := by simpa [tss2] using hi
    exact e0
  · obtain rfl : i = 0 := by simpa [tss2] using hi
    exact e1

/-- cell.Ends at the document's example. -/
theorem ends_example (w : World) (a0 : Option Addr) (c0 : Nat) (v1 : Value) (hmem : IsInts w (.slice a0 1 c0) [0]) (htasks : IsTasks w v1 tss2) :
    Calls Tryd.prog 8 #[.slice a0 1 c0, v1] w fun e w' => ∃ v, e = .returned (.tuple #[v, .agg #[.int .i64 0, .int .i64 0]]) ∧ IsLists w' v [[2]] ∧ Below w.heap.size w w' := by
  have h := ends_one w fmt1 a0 c0 [0] v1 tss2 2 hmem htasks (by simp) (by simp) (by decide) (by decide) (by kernel_rfl) (by kernel_rfl) (by omega) all0
    (fun k hk => by
      have h : k = 0 ∨ k = 1 := by simp [tss2] at hk; omega
      rcases h with rfl | rfl <;> decide)
    ok0 (fun r hr j hj k hk hne z hz => appOk012 w z (num0 r hr j hj k hk hne z hz)) (by rw [sp2]; rfl)
  rw [sp2] at h
  exact h

theorem ints_new1 (w : World) (x : Int) (t : TypeId) : IsInts (w.alloc (.cells #[.int .i64 x] t)) (.slice (some ⟨w.heap.size, 0, none⟩) 1 1) [x] :=
  ⟨rfl, Or.inr ⟨⟨w.heap.size, 0, none⟩, 1, rfl, cell_one_new w (.int .i64 x) t⟩⟩

theorem ops_new1 (w : World) (o : Op4) : IsOps (w.alloc (.cells #[.int .i64 o.k, .int .i64 o.p, .int .i64 o.a, .int .i64 o.b] 29)) (.slice (some ⟨w.heap.size, 0, none⟩) 1 1) [o] := by
  refine ⟨rfl, Or.inr ⟨⟨w.heap.size, 0, none⟩, 1, rfl, fun j u hj => ?_⟩⟩
  rw [WideShapes.add_plain, Nat.zero_add]
  have e : opsCells [o] = o.cells := by simp [opsCells]
  rw [e] at hj
  rw [World.cell?_alloc_at _ _ _ _ rfl]
  rw [← List.getElem?_toArray] at hj
  exact hj

theorem tasks_new2 (w w0 : World) (o : Op4) (hb : Below w0.heap.size w0 w) (v : Value) (hv : IsOps w0 v [o]) : IsTasks (w.alloc (.cells #[v, v] 27)) (.slice (some ⟨w.heap.size, 0, none⟩) 2 2) [[o], [o]] := by
  refine ⟨fun _ => v, ⟨rfl, Or.inr ⟨⟨w.heap.size, 0, none⟩, 2, rfl, cell_two_new w v v 27⟩⟩, fun j hj => ?_⟩
  have h : j = 0 ∨ j = 1 := by simp at hj; omega
  have h1 : IsOps (w.alloc (.cells #[v, v] 27)) v [o] := Rd.below hv (hb.alloc hb.size _)
  rcases h with rfl | rfl <;> exact h1

theorem begun_args (w : World) : IsInts (((w.alloc (.cells #[.int .i64 3, .int .i64 0, .int .i64 1, .int .i64 0] 29)).alloc (.cells #[.int .i64 0] 3)).alloc (.cells #[.slice (some ⟨w.heap.size, 0, none⟩) 1 1, .slice (some ⟨w.heap.size, 0, none⟩) 1 1] 27)) (.slice (some ⟨w.heap.size + 1, 0, none⟩) 1 1) [0] ∧
    IsTasks (((w.alloc (.cells #[.int .i64 3, .int .i64 0, .int .i64 1, .int .i64 0] 29)).alloc (.cells #[.int .i64 0] 3)).alloc (.cells #[.slice (some ⟨w.heap.size, 0, none⟩) 1 1, .slice (some ⟨w.heap.size, 0, none⟩) 1 1] 27)) (.slice (some ⟨w.heap.size + 2, 0, none⟩) 2 2) tss2 := by
  have h1 := ints_new1 (w.alloc (.cells #[.int .i64 3, .int .i64 0, .int .i64 1, .int .i64 0] 29)) 0 3
  have h2 := tasks_new2 ((w.alloc (.cells #[.int .i64 3, .int .i64 0, .int .i64 1, .int .i64 0] 29)).alloc (.cells #[.int .i64 0] 3)) (w.alloc (.cells #[.int .i64 3, .int .i64 0, .int .i64 1, .int .i64 0] 29)) opA ((Below.refl _ _).alloc (Nat.le_refl _) _) _ (ops_new1 w opA)
  rw [World.size_alloc] at h1
  rw [World.size_alloc, World.size_alloc] at h2
  exact ⟨Rd.below h1 ((Below.refl _ _).alloc (Nat.le_refl _) _), h2⟩

theorem lists_new1 (w w0 : World) (v : Value) (zs : List Int) (hb : Below w0.heap.size w0 w) (hv : IsInts w0 v zs) : IsLists (w.alloc (.cells #[v] 22)) (.slice (some ⟨w.heap.size, 0, none⟩) 1 1) [zs] := by
  refine ⟨fun _ => v, ⟨rfl, Or.inr ⟨⟨w.heap.size, 0, none⟩, 1, rfl, cell_one_new w v 22⟩⟩, fun j hj => ?_⟩
  obtain rfl : j = 0 := by simpa using hj
  exact Rd.below hv (hb.alloc hb.size _)

theorem IsLists.below {w w' : World} {v : Value} {zss : List (List Int)} (h : IsLists w v zss) (hb : Below w.heap.size w w') : IsLists w' v zss := by
  obtain ⟨V, h1, h2⟩ := h
  exact ⟨V, h1.below hb, fun j hj => Rd.below (h2 j hj) hb⟩

/-- taskmillref.Lists of two that read alike, and not empty. -/
theorem lists_same (w : World) (v v' : Value) (zss : List (List Int)) (h : IsLists w v zss) (h' : IsLists w v' zss) (hn : 0 < zss.length) (hm : zss.length ≤ maxLen) (hl : ∀ j, j < zss.length → (zss.getD j []).length ≤ maxLen) :
    Calls Tryd.prog 9 #[v, v'] w fun e w' => e = .returned (.bool true) ∧ Below w.heap.size w w' := by
  obtain ⟨V, h1, h2⟩ := h
  obtain ⟨V', h1', h2'⟩ := h'
  obtain ⟨b, off, c, rfl, hb, hc⟩ := Rd.at h1 hn (by decide)
  obtain ⟨b', off', c', rfl, hb', hc'⟩ := Rd.at h1' hn (by decide)
  exact lists_some w zss.length b off c b' off' c' hm V V' hb hb' (fun j hj => hc j _ (by simp [hj])) (fun j hj => hc' j _ (by simp [hj]))
    (fun j hj W hW => ints_same W _ _ _ (Rd.below (h2 j hj) hW) (Rd.below (h2' j hj) hW) (hl j hj))

theorem begun_lists (w1 : World) (v : Value) (o : Obj) (h : IsLists w1 v [[2]]) :
    Calls Tryd.prog 9 #[v, .slice (some ⟨w1.heap.size + 1 + 1, 0, none⟩) 1 1] (((w1.alloc o).alloc (.cells #[.int .i64 2] 3)).alloc (.cells #[.slice (some ⟨w1.heap.size + 1, 0, none⟩) 1 1] 22)) fun e w' => e = .returned (.bool true) ∧ Below w1.heap.size w1 w' := by
  have hi := ints_new1 (w1.alloc o) 2 3
  rw [World.size_alloc] at hi
  have hl := lists_new1 ((w1.alloc o).alloc (.cells #[.int .i64 2] 3)) _ _ _ (Below.refl _ _) hi
  rw [World.size_alloc, World.size_alloc] at hl
  have hb : Below w1.heap.size w1 (((w1.alloc o).alloc (.cells #[.int .i64 2] 3)).alloc (.cells #[.slice (some ⟨w1.heap.size + 1, 0, none⟩) 1 1] 22)) := (((Below.refl _ _).alloc (Nat.le_refl _) o).alloc (by simp) _).alloc (by simp; omega) _
  refine (lists_same _ _ _ _ (h.below hb) hl (by decide) (by decide) (fun j hj => ?_)).mono ?_
  · obtain rfl : j = 0 := by simpa using hj
    simp [maxLen]
  · rintro e w' ⟨rfl, hb'⟩
    exact ⟨rfl, hb.trans (hb'.mono hb.size)⟩

set_option maxRecDepth 100000 in
set_option maxHeartbeats 1000000 in
theorem begun_any (w : World) : Calls Tryd.prog 4 #[] w fun e w' => e = .returned (.bool true) ∧ Below w.heap.size w w' := by
  have HA := hide (begun_args w)
  go_enter Tryd.func4, Tryd.ntmps4
  go_wp2_with (first
    | (go_at_call 8; refine (ends_example _ _ _ _ (unhide HA).1 (unhide HA).2).mono ?_; rintro e w1 ⟨v, rfl, hl1, hb1⟩; have HL1 := hide hl1; have HB1 := hide hb1; clear hl1 hb1)
    | (go_at_call 9; refine (begun_lists _ _ _ (unhide HL1)).mono ?_; rintro e w2 ⟨rfl, hb2⟩; have HB2 := hide hb2; clear hb2))
  go_ret
  have h3 : Below w.heap.size w (((w.alloc (.cells #[.int .i64 3, .int .i64 0, .int .i64 1, .int .i64 0] 29)).alloc (.cells #[.int .i64 0] 3)).alloc (.cells #[.slice (some ⟨w.heap.size, 0, none⟩) 1 1, .slice (some ⟨w.heap.size, 0, none⟩) 1 1] 27)) := (((Below.refl _ _).alloc (Nat.le_refl _) _).alloc (by simp) _).alloc (by simp; omega) _
  have h4 := h3.trans ((unhide HB1).mono h3.size)
  exact ⟨rfl, h4.trans ((unhide HB2).mono h4.size)⟩
end Go.Proofs.YtpgokeogijpmaabDoor
