/-
  taskmillref.InLine, taskmilllaw.ownLock.
-/
import Derived.Test.YtdpcbmekplcllaaH
namespace Go.Proofs.Ytdpcbmekplcllaa
open Go.RowKit

set_option maxRecDepth 100000 in
set_option maxHeartbeats 1000000 in
theorem inLine_any (w : World) (v : Value) (xs : List Po) (x : Int) (h : IsL KP w v xs) (hn : xs.length ≤ maxLen) :
    Calls Try.prog 15 #[v, .int .i64 x] w fun e w' => (e = .returned (.int .i64 (-1)) ∧ xs.any (isOfP x) = false ∨ ∃ j : Nat, e = .returned (.int .i64 (j : Int)) ∧ j < xs.length ∧ (pAt xs j).1 = x ∧ ∀ i, i < j → (pAt xs i).1 ≠ x) ∧ Below w.heap.size w w' := by
  obtain ⟨a0, c0, rfl⟩ := h.form
  have H0 := hide (h.opens kp rfl)
  have HA := hide (any_pAt xs (isOfP x))
  obtain ⟨n, en⟩ : ∃ n, xs.length = n := ⟨_, rfl⟩
  rw [en] at H0 HA hn ⊢
  have HN := hide en
  unfold maxLen at hn
  clear h en
  go_enter Try.func15, Try.ntmps15
  go_wp2
  go_loopw [5] (fun i wr => ∃ j : Nat, j ≤ n ∧ i = .int .i64 j ∧ wr = w ∧ ∀ i, i < j → (pAt xs i).1 ≠ x) (fun i _ => n - (intOf i).toNat)
  case atStart => exact ⟨0, Nat.zero_le _, rfl, rfl, fun i hi => by omega⟩
  case round =>
    obtain ⟨j, hj, rfl, rfl, hne⟩ := hrel
    have HNE := hide hne
    clear hne
    by_cases hlt : j < n
    · obtain ⟨b0, o0, rfl, hb0, l0⟩ := unhide H0 (by omega)
      obtain ⟨⟨t, c, u⟩, hx⟩ : ∃ y, pAt xs j = y := ⟨_, rfl⟩
      obtain ⟨k0, k1, k2⟩ := l0.post (j := j) (by rw [unhide HN]; exact hlt) hx
      have HZ : Hid ((pAt xs j).1 = t) := congrArg Prod.fst hx
      have i0 : (0 : Int) ≤ (j : Int) := by omega
      have i1 : (j : Int) < (n : Int) := by omega
      clear hx l0 H0
      by_cases hz : t = x
      · subst hz
        have hz1 : (t == t) = true := by simp
        go_wp2
        go_ret
        exact ⟨Or.inr ⟨j, rfl, hlt, unhide HZ, unhide HNE⟩, Below.refl _ _⟩
      · have hz1 : (t == x) = false := by simpa using hz
        go_wp2
        go_roundw
        case rel => exact ⟨j + 1, by omega, by go_num, by first | rfl | trivial, fun i hi => by
          by_cases e : i = j
          · subst e; rw [unhide HZ]; exact hz
          · exact unhide HNE i (by omega)⟩
        case measure => simp [intOf]; omega
    · go_wp2
      go_ret
      refine ⟨Or.inl ⟨rfl, ?_⟩, Below.refl _ _⟩
      cases hq : xs.any (isOfP x) with
      | false => rfl
      | true =>
        obtain ⟨i, hi, he⟩ := (unhide HA).1 hq
        exact absurd (by simpa [isOfP] using he) (unhide HNE i (by omega))

/-- What a cell holds. -/
@[irreducible] def cellOf (w : World) (g o : Nat) : Value := (w.cell? ⟨g, o, none⟩).getD undef
theorem cell_there {w : World} {g o : Nat} (h : (w.cell? ⟨g, o, none⟩).isSome = true) : w.cell? ⟨g, o, none⟩ = some (cellOf w g o) := by
  obtain ⟨u, hu⟩ := Option.isSome_iff_exists.1 h
  rw [cellOf, hu, Option.getD_some]
theorem three_of {w : World} {g : Nat} {x0 x1 x2 : Value} {t : TypeId} (h : w.heap[g]? = some (.cells #[x0, x1, x2] t (0, 0))) : (w.cell? ⟨g, 0, none⟩ = some (cellOf w g 0) ∧ w.cell? ⟨g, 1, none⟩ = some (cellOf w g 1) ∧ w.cell? ⟨g, 2, none⟩ = some (cellOf w g 2)) ∧ (w.frozen? ⟨g, 0, none⟩ = false ∧ w.frozen? ⟨g, 1, none⟩ = false ∧ w.frozen? ⟨g, 2, none⟩ = false) := by
  obtain ⟨⟨a, b, c⟩, f, -⟩ := block3 h
  exact ⟨⟨cell_there (by rw [a]; rfl), cell_there (by rw [b]; rfl), cell_there (by rw [c]; rfl)⟩, f⟩
/-- All but one variable of three cells is as it was. -/
structure Own3 (r : Nat) (W0 W : World) : Prop where
  but : But r W0 W
  there : ∃ x0 x1 x2, W.heap[r]? = some (.cells #[x0, x1, x2] 24 (0, 0))
theorem Own3.call {r : Nat} {W0 W W' : World} (h : Own3 r W0 W) (hb : Below W.heap.size W W') : Own3 r W0 W' := by
  obtain ⟨x0, x1, x2, hx⟩ := h.there
  exact ⟨h.but.call hb, x0, x1, x2, keep_below hx hb⟩
theorem Own3.put {r : Nat} {W0 W : World} (h : Own3 r W0 W) (y0 y1 y2 : Value) : Own3 r W0 (putL W r y0 y1 y2) := by
  obtain ⟨x0, x1, x2, hx⟩ := h.there
  have hb := putL_below (Below.refl 0 W) (Nat.zero_le r) (y0 := y0) (y1 := y1) (y2 := y2)
  exact ⟨h.but.trans ⟨hb.os, hb.tape, hb.output, hb.size, fun k _ hk => putL_keep hk⟩, _, _, _, putL_new hx⟩

set_option maxRecDepth 100000 in
set_option maxHeartbeats 1000000 in
theorem ownLock_any (w : World) (v : Value) (P : Lk) (h : IsLock w v P) (hn : P.line.length * 24 ≤ 140737488355328) :
    Calls Try.prog 9 #[v] w fun e w' => ∃ v', e = .returned v' ∧ NewLock w.heap.size w' v' P ∧ Below w.heap.size w w' := by
  obtain ⟨r, bw, line⟩ := P
  obtain ⟨a0, c0, rfl, hL⟩ := h.form
  simp only at hL hn ⊢
  have HS : Hid (∀ W, Below w.heap.size w W → Calls Try.prog 18 #[.slice a0 line.length c0] W fun e w' => ∃ a' c', e = .returned (.slice a' line.length c') ∧ Own KP W.heap.size w' (.slice a' line.length c') line ∧ Below W.heap.size W w') := fun W hW => ownPosts_any W _ line (hL.below hW) hn
  generalize line.length = n at *
  clear h hL
  obtain ⟨W0, e0, hB, k0, k1⟩ := two_new w (.cells #[.int .i64 r, .bool bw, .slice a0 n c0] 24) (.cells #[.int .i64 0, .bool false, .slice none 0 0] 24)
  have HB := hide hB; have HQ := hide k0; have HR := hide k1; have HE := hide e0
  clear hB k0 k1 e0
  go_enter Try.func9, Try.ntmps9
  go_upto_region 1 with fail
  rw [unhide HE]
  clear HE
  have HKP : Hid (Own3 (w.heap.size + 1) W0 W0) := ⟨But.refl _ _, _, _, _, unhide HR⟩
  have HBW : Hid (∀ W, Own3 (w.heap.size + 1) W0 W → Below w.heap.size w W) := fun W hW => (unhide HB).trans (hW.but.below (Nat.le_succ _) (unhide HB).size)
  have HSS : Hid (∀ W, Own3 (w.heap.size + 1) W0 W → (W.cell? ⟨w.heap.size, 0, none⟩ = some (.int .i64 r) ∧ W.cell? ⟨w.heap.size, 1, none⟩ = some (.bool bw) ∧ W.cell? ⟨w.heap.size, 2, none⟩ = some (.slice a0 n c0)) ∧ ((W.cell? ⟨w.heap.size + 1, 0, none⟩ = some (cellOf W (w.heap.size + 1) 0) ∧ W.cell? ⟨w.heap.size + 1, 1, none⟩ = some (cellOf W (w.heap.size + 1) 1) ∧ W.cell? ⟨w.heap.size + 1, 2, none⟩ = some (cellOf W (w.heap.size + 1) 2)) ∧ (W.frozen? ⟨w.heap.size + 1, 0, none⟩ = false ∧ W.frozen? ⟨w.heap.size + 1, 1, none⟩ = false ∧ W.frozen? ⟨w.heap.size + 1, 2, none⟩ = false)) ∧ Own3 (w.heap.size + 1) W0 W) := fun W hW => by
    obtain ⟨x0, x1, x2, hx⟩ := hW.there
    exact ⟨(block3 (keep_but (unhide HQ) hW.but (Nat.ne_of_lt (Nat.lt_succ_self _)))).1, three_of hx, hW⟩
  go_wp2_with fail
  go_region_held3 (fun W => (W.cell? ⟨w.heap.size, 0, none⟩ = some (.int .i64 r) ∧ W.cell? ⟨w.heap.size, 1, none⟩ = some (.bool bw) ∧ W.cell? ⟨w.heap.size, 2, none⟩ = some (.slice a0 n c0)) ∧ ((W.cell? ⟨w.heap.size + 1, 0, none⟩ = some (cellOf W (w.heap.size + 1) 0) ∧ W.cell? ⟨w.heap.size + 1, 1, none⟩ = some (cellOf W (w.heap.size + 1) 1) ∧ W.cell? ⟨w.heap.size + 1, 2, none⟩ = some (cellOf W (w.heap.size + 1) 2)) ∧ (W.frozen? ⟨w.heap.size + 1, 0, none⟩ = false ∧ W.frozen? ⟨w.heap.size + 1, 1, none⟩ = false ∧ W.frozen? ⟨w.heap.size + 1, 2, none⟩ = false)) ∧ Own3 (w.heap.size + 1) W0 W)
    (first | with_reducible exact unhide HSS _ ((unhide HKP).call (Below.refl _ _).drew) | with_reducible exact unhide HSS _ (unhide HK1) | exact unhide HSS _ ((unhide HK1).put _ _ _))
    (first
      | (go_at_call 18; refine (unhide HS _ (unhide HBW _ (by go_split_ands; assumption))).mono ?_; rintro e w1 ⟨b1, d1, rfl, ho1, hb1⟩; have HK1 : Hid (Own3 (w.heap.size + 1) W0 w1) := Own3.call (by go_split_ands; assumption) hb1; have HO1 := hide (ho1.base (show w.heap.size ≤ _ from (unhide HBW _ (by go_split_ands; assumption)).size)); clear ho1 hb1))
  go_wp2_with fail
  obtain ⟨x0, x1, x2, hx⟩ := (unhide HK1).there
  obtain ⟨⟨q0, q1, q2⟩, -, -⟩ := block3 hx
  refine bodyPost_ret (v := .agg #[.int .i64 r, .bool bw, .slice b1 n d1]) (by simp [results, Try.results9, go_sem, q0, q1, q2]) rfl ⟨_, rfl, ⟨_, rfl, ?_⟩, putL_below (unhide HBW _ (unhide HK1)) (Nat.le_succ _)⟩
  exact ((unhide HO1).keep (fun k hk => putL_keep ((unhide HO1).ne hx (by decide) k hk))).new
end Go.Proofs.Ytdpcbmekplcllaa
