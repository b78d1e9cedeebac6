/-
  taskmilllaw.ownPipe.
-/
import Derived.Test.YtijogcjocandcaaR
namespace Go.Proofs.Ytijogcjocandcaa
open Go.RowKit

/-- What a cell holds. -/
@[irreducible] def cellOf (w : World) (g o : Nat) : Value := (w.cell? ⟨g, o, none⟩).getD undef
theorem cell_there {w : World} {g o : Nat} (h : (w.cell? ⟨g, o, none⟩).isSome = true) : w.cell? ⟨g, o, none⟩ = some (cellOf w g o) := by
  obtain ⟨u, hu⟩ := Option.isSome_iff_exists.1 h
  rw [cellOf, hu, Option.getD_some]
/-- Five cells that may be written. -/
def Five (w : World) (g : Nat) : Prop := (w.cell? ⟨g, 0, none⟩ = some (cellOf w g 0) ∧ w.cell? ⟨g, 1, none⟩ = some (cellOf w g 1) ∧ w.cell? ⟨g, 2, none⟩ = some (cellOf w g 2) ∧ w.cell? ⟨g, 3, none⟩ = some (cellOf w g 3) ∧ w.cell? ⟨g, 4, none⟩ = some (cellOf w g 4)) ∧ (w.frozen? ⟨g, 0, none⟩ = false ∧ w.frozen? ⟨g, 1, none⟩ = false ∧ w.frozen? ⟨g, 2, none⟩ = false ∧ w.frozen? ⟨g, 3, none⟩ = false ∧ w.frozen? ⟨g, 4, none⟩ = false)
theorem five_of {w : World} {g : Nat} {x0 x1 x2 x3 x4 : Value} {t : TypeId} (h : w.heap[g]? = some (.cells #[x0, x1, x2, x3, x4] t (0, 0))) : Five w g := by
  obtain ⟨⟨a, b, c, d, e⟩, f, -⟩ := block5 h
  exact ⟨⟨cell_there (by rw [a]; rfl), cell_there (by rw [b]; rfl), cell_there (by rw [c]; rfl), cell_there (by rw [d]; rfl), cell_there (by rw [e]; rfl)⟩, f⟩
/-- All but one variable of five cells is as it was. -/
structure Own5 (r : Nat) (W0 W : World) : Prop where
  but : But r W0 W
  there : ∃ x0 x1 x2 x3 x4, W.heap[r]? = some (.cells #[x0, x1, x2, x3, x4] 25 (0, 0))
theorem Own5.call {r : Nat} {W0 W W' : World} (h : Own5 r W0 W) (hb : Below W.heap.size W W') : Own5 r W0 W' := by
  obtain ⟨x0, x1, x2, x3, x4, hx⟩ := h.there
  exact ⟨h.but.call hb, x0, x1, x2, x3, x4, keep_below hx hb⟩
theorem Own5.put {r : Nat} {W0 W : World} (h : Own5 r W0 W) (y0 y1 y2 y3 y4 : Value) : Own5 r W0 (put5 W r y0 y1 y2 y3 y4) := by
  obtain ⟨x0, x1, x2, x3, x4, hx⟩ := h.there
  have hb := put5_below (Below.refl 0 W) (Nat.zero_le r) (y0 := y0) (y1 := y1) (y2 := y2) (y3 := y3) (y4 := y4)
  exact ⟨h.but.trans ⟨hb.os, hb.tape, hb.output, hb.size, fun k _ hk => put5_keep hk⟩, _, _, _, _, _, put5_new hx⟩

set_option maxRecDepth 100000 in
set_option maxHeartbeats 1000000 in
theorem ownPipe_any (w : World) (v : Value) (P : Pp) (h : IsPipe w v P) (hs : Short P) :
    Calls Try.prog 11 #[v] w fun e w' => ∃ v', e = .returned v' ∧ NewPipe w.heap.size w' v' P ∧ Below w.heap.size w w' := by
  obtain ⟨cap, items, closed, ss, gs⟩ := P
  obtain ⟨a1, c1, a2, c2, a3, c3, rfl, hI, hS, hG⟩ := h.form
  obtain ⟨h1, h2, h3⟩ := hs
  simp only at h1 h2 h3 h hI hS hG ⊢
  have HI : Hid (∀ W, Below w.heap.size w W → Calls Try.prog 29 #[.slice a1 items.length c1] W fun e w' => ∃ a' c', e = .returned (.slice a' items.length c') ∧ Own KI W.heap.size w' (.slice a' items.length c') items ∧ Below W.heap.size W w') := fun W hW => own_any W _ items (hI.below hW) h1
  have HS : Hid (∀ W, Below w.heap.size w W → Calls Try.prog 17 #[.slice a2 ss.length c2] W fun e w' => ∃ a' c', e = .returned (.slice a' ss.length c') ∧ Own KP W.heap.size w' (.slice a' ss.length c') ss ∧ Below W.heap.size W w') := fun W hW => ownPosts_any W _ ss (hS.below hW) h2
  have HG : Hid (∀ W, Below w.heap.size w W → Calls Try.prog 17 #[.slice a3 gs.length c3] W fun e w' => ∃ a' c', e = .returned (.slice a' gs.length c') ∧ Own KP W.heap.size w' (.slice a' gs.length c') gs ∧ Below W.heap.size W w') := fun W hW => ownPosts_any W _ gs (hG.below hW) h3
  generalize items.length = n1 at *
  generalize ss.length = n2 at *
  generalize gs.length = n3 at *
  clear h hI hS hG
  have HB := hide ((Below.refl w.heap.size w).alloc (Nat.le_refl _) (.cells #[.int .i64 cap, .slice a1 n1 c1, .bool closed, .slice a2 n2 c2, .slice a3 n3 c3] 25) |>.alloc (by simp) (.cells #[.int .i64 0, .slice none 0 0, .bool false, .slice none 0 0, .slice none 0 0] 25))
  have HQ := hide (keep_alloc (new_block w (.cells #[.int .i64 cap, .slice a1 n1 c1, .bool closed, .slice a2 n2 c2, .slice a3 n3 c3] 25)) (.cells #[.int .i64 0, .slice none 0 0, .bool false, .slice none 0 0, .slice none 0 0] 25))
  have HR := hide (new_block (w.alloc (.cells #[.int .i64 cap, .slice a1 n1 c1, .bool closed, .slice a2 n2 c2, .slice a3 n3 c3] 25)) (.cells #[.int .i64 0, .slice none 0 0, .bool false, .slice none 0 0, .slice none 0 0] 25))
  rw [World.size_alloc] at HR
  go_enter Try.func11, Try.ntmps11
  go_upto_region 1 with fail
  obtain ⟨W0, eW⟩ : ∃ W, (w.alloc (.cells #[.int .i64 cap, .slice a1 n1 c1, .bool closed, .slice a2 n2 c2, .slice a3 n3 c3] 25)).alloc (.cells #[.int .i64 0, .slice none 0 0, .bool false, .slice none 0 0, .slice none 0 0] 25) = W := ⟨_, rfl⟩
  rw [eW] at HB HQ HR ⊢
  clear eW
  have HZ := hide (block5 (unhide HR)).2.2
  have HKP : Hid (Own5 (w.heap.size + 1) W0 W0) := ⟨But.refl _ _, _, _, _, _, _, unhide HR⟩
  have HBW : Hid (∀ W, Own5 (w.heap.size + 1) W0 W → Below w.heap.size w W) := fun W hW => (unhide HB).trans (hW.but.below (Nat.le_succ _) (unhide HB).size)
  have HSS : Hid (∀ W, Own5 (w.heap.size + 1) W0 W → (W.cell? ⟨w.heap.size, 0, none⟩ = some (.int .i64 cap) ∧ W.cell? ⟨w.heap.size, 1, none⟩ = some (.slice a1 n1 c1) ∧ W.cell? ⟨w.heap.size, 2, none⟩ = some (.bool closed) ∧ W.cell? ⟨w.heap.size, 3, none⟩ = some (.slice a2 n2 c2) ∧ W.cell? ⟨w.heap.size, 4, none⟩ = some (.slice a3 n3 c3)) ∧ ((W.cell? ⟨w.heap.size + 1, 0, none⟩ = some (cellOf W (w.heap.size + 1) 0) ∧ W.cell? ⟨w.heap.size + 1, 1, none⟩ = some (cellOf W (w.heap.size + 1) 1) ∧ W.cell? ⟨w.heap.size + 1, 2, none⟩ = some (cellOf W (w.heap.size + 1) 2) ∧ W.cell? ⟨w.heap.size + 1, 3, none⟩ = some (cellOf W (w.heap.size + 1) 3) ∧ W.cell? ⟨w.heap.size + 1, 4, none⟩ = some (cellOf W (w.heap.size + 1) 4)) ∧ (W.frozen? ⟨w.heap.size + 1, 0, none⟩ = false ∧ W.frozen? ⟨w.heap.size + 1, 1, none⟩ = false ∧ W.frozen? ⟨w.heap.size + 1, 2, none⟩ = false ∧ W.frozen? ⟨w.heap.size + 1, 3, none⟩ = false ∧ W.frozen? ⟨w.heap.size + 1, 4, none⟩ = false)) ∧ Own5 (w.heap.size + 1) W0 W) := fun W hW => by
    obtain ⟨x0, x1, x2, x3, x4, hx⟩ := hW.there
    exact ⟨(block5 (keep_but (unhide HQ) hW.but (Nat.ne_of_lt (Nat.lt_succ_self _)))).1, five_of hx, hW⟩
  go_wp2_with fail
  go_region_held3 (fun W => (W.cell? ⟨w.heap.size, 0, none⟩ = some (.int .i64 cap) ∧ W.cell? ⟨w.heap.size, 1, none⟩ = some (.slice a1 n1 c1) ∧ W.cell? ⟨w.heap.size, 2, none⟩ = some (.bool closed) ∧ W.cell? ⟨w.heap.size, 3, none⟩ = some (.slice a2 n2 c2) ∧ W.cell? ⟨w.heap.size, 4, none⟩ = some (.slice a3 n3 c3)) ∧ ((W.cell? ⟨w.heap.size + 1, 0, none⟩ = some (cellOf W (w.heap.size + 1) 0) ∧ W.cell? ⟨w.heap.size + 1, 1, none⟩ = some (cellOf W (w.heap.size + 1) 1) ∧ W.cell? ⟨w.heap.size + 1, 2, none⟩ = some (cellOf W (w.heap.size + 1) 2) ∧ W.cell? ⟨w.heap.size + 1, 3, none⟩ = some (cellOf W (w.heap.size + 1) 3) ∧ W.cell? ⟨w.heap.size + 1, 4, none⟩ = some (cellOf W (w.heap.size + 1) 4)) ∧ (W.frozen? ⟨w.heap.size + 1, 0, none⟩ = false ∧ W.frozen? ⟨w.heap.size + 1, 1, none⟩ = false ∧ W.frozen? ⟨w.heap.size + 1, 2, none⟩ = false ∧ W.frozen? ⟨w.heap.size + 1, 3, none⟩ = false ∧ W.frozen? ⟨w.heap.size + 1, 4, none⟩ = false)) ∧ Own5 (w.heap.size + 1) W0 W)
    (first | with_reducible exact unhide HSS _ ((unhide HKP).call (Below.refl _ _).drew) | with_reducible exact unhide HSS _ (unhide HK1) | with_reducible exact unhide HSS _ (unhide HK2) | with_reducible exact unhide HSS _ (unhide HK3) | exact unhide HSS _ ((unhide HK3).put _ _ _ _ _))
    (first
      | (go_at_call 29; refine (unhide HI _ (unhide HBW _ (by go_split_ands; assumption))).mono ?_; rintro e w1 ⟨b1, d1, rfl, ho1, hb1⟩; have HK1 : Hid (Own5 (w.heap.size + 1) W0 w1) := Own5.call (by go_split_ands; assumption) hb1; have HO1 := hide (ho1.base (show w.heap.size ≤ _ from (unhide HBW _ (by go_split_ands; assumption)).size)); clear ho1 hb1)
      | (go_at_call 17; (with_reducible refine Calls.mono (unhide HS _ (unhide HBW _ (unhide HK1))) ?_); rintro e w2 ⟨b2, d2, rfl, ho2, hb2⟩; have HK2 : Hid (Own5 (w.heap.size + 1) W0 w2) := (unhide HK1).call hb2; have HX2 := hide hb2; have HO2 := hide (ho2.base (unhide HBW _ (unhide HK1)).size); clear ho2 hb2)
      | (go_at_call 17; (with_reducible refine Calls.mono (unhide HG _ (unhide HBW _ (unhide HK2))) ?_); rintro e w3 ⟨b3, d3, rfl, ho3, hb3⟩; have HK3 : Hid (Own5 (w.heap.size + 1) W0 w3) := (unhide HK2).call hb3; have HX3 := hide hb3; have HO3 := hide (ho3.base (unhide HBW _ (unhide HK2)).size); clear ho3 hb3))
  go_wp2_with fail
  obtain ⟨x0, x1, x2, x3, x4, hx⟩ := (unhide HK3).there
  obtain ⟨⟨q0, q1, q2, q3, q4⟩, -, -⟩ := block5 hx
  refine bodyPost_ret (v := .agg #[.int .i64 cap, .slice b1 n1 d1, .bool closed, .slice b2 n2 d2, .slice b3 n3 d3]) (by simp [results, Try.results11, go_sem, q0, q1, q2, q3, q4]) rfl ⟨_, rfl, ⟨_, _, _, rfl, ?_, ?_, ?_⟩, put5_below (unhide HBW _ (unhide HK3)) (Nat.le_succ _)⟩
  · exact ((((unhide HO1).below (unhide HX2)).below (unhide HX3)).keep (fun k hk => put5_keep ((((unhide HO1).below (unhide HX2)).below (unhide HX3)).ne hx (by decide) k hk))).new
  · exact (((unhide HO2).below (unhide HX3)).keep (fun k hk => put5_keep (((unhide HO2).below (unhide HX3)).ne hx (by decide) k hk))).new
  · exact ((unhide HO3).keep (fun k hk => put5_keep ((unhide HO3).ne hx (by decide) k hk))).new
end Go.Proofs.Ytijogcjocandcaa
